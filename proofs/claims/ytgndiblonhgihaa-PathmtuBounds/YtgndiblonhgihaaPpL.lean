/-
  The statement PathmtuBounds.
-/
import Derived.Test.YtgndiblonhgihaaPpK
namespace Go.Proofs.Ytgndiblonhgihaa
open Go Go.RowKit Go.Lib
set_option linter.unusedVariables false
set_option linter.unusedSimpArgs false

theorem mtuL_bd {L : List (PE × Nat)} {cf : Cf} {d : List Int} {lo : Int} (h : ∀ x ∈ L, lo ≤ x.1.m ∧ x.1.m ≤ cf.link) (hl : lo ≤ cf.link) : lo ≤ mtuL cf L d ∧ mtuL cf L d ≤ cf.link := by
  unfold mtuL
  cases hf : L.find? (fun x => decide (x.1.k = d)) with
  | none => exact ⟨hl, Int.le_refl _⟩
  | some x => exact h x (List.mem_of_find?_eq_some hf)
theorem Jn.bd {B : Nat} {W0 W : World} {p pb mb rb : Nat} {cf : Cf} {now : Int} {L : List (PE × Nat)} {D : List PE} (h : Jn B W0 W p pb mb rb cf now L D) (t : Int) (d : List Int) : cf.least ≤ mtuL cf (live L t) d ∧ mtuL cf (live L t) d ≤ cf.link := by
  obtain ⟨r1, _, r3⟩ := h.lives t
  exact mtuL_bd (fun x hx => r3 x.1 ((r1.mem x.1).2 ⟨x.2, hx⟩)) h.k.link.1
theorem ex_ixO {o : Oper} {a : Act} {W : World} (p q : Operand) (hop : o.op = Op.indexAddr 24 p q) {g off len c j : Nat} (hp : a.eval p = .slice (some ⟨g, off, none⟩) len c) (hq : a.eval q = .int .i64 j) (hj : j < len) : (execOp a.eval o).run Try.prog W = .ok (.value (.pointer (some ⟨g, off + j * 19, none⟩))) W := by
  have hz : ∀ w, (Go.sizeOf 37).run Try.prog w = .ok 19 w := fun w => by kernel_rfl
  have hs : (Instr.indexAt 24 (.slice (some ⟨g, off, none⟩) len c) (.int .i64 j)).run Try.prog W = .ok (.pointer (some ⟨g, off + j * 19, none⟩)) W := by
    simp [Instr.indexAt, go_sem, hj, hz]
  generalize a.eval = ev at *
  simp [execOp, hop, hp, hq, hs, Result.andThen]
theorem op_dst {W : World} {g o : Nat} {q : OpP} (hk : K16 q.d) (h : CellsAt W g o q.c) : (Instr.loadAt 35 (.pointer (some ⟨g, o + 2, none⟩))).run Try.prog W = .ok (.agg (u8s q.d).toArray) W := by
  have c2 := CellsAt.part (xs := [.int .i64 q.kd, .int .i64 q.a]) (ys := u8s q.d) (zs := [.int .i64 q.z]) h
  exact load6 hk.len c2
theorem ex_gtrN {o : Oper} {a : Act} {W : World} (p q : Operand) {t : TypeId} (hop : o.op = Op.binOp .gtr 3 p q t) {x y : Int} (hp : a.eval p = .int .i64 x) (hq : a.eval q = .int .i64 y) {b : Bool} (hb : decide (x > y) = b) : (execOp a.eval o).run Try.prog W = .ok (.value (.bool b)) W := by
  generalize a.eval = ev at *
  subst hb
  simp [execOp, hop, hp, hq, go_sem]
set_option maxHeartbeats 16000000 in
set_option maxRecDepth 100000 in
theorem pathmtuBounds_walk {W : World} {cf : Cf} {v : Value} {os : List OpP} (ho : OpsAt W v os) (hi : ∀ o ∈ os, K16 o.d) :
    Calls Try.prog 4 #[.agg (cfC cf).toArray, v] W fun e w' => e = .returned (.bool true) ∧ Below W.heap.size W w' := by
  generalize hQ : (fun (e : Ending) (w' : World) => e = .returned (.bool true) ∧ Below W.heap.size W w') = Q
  have HQ : Hid (∀ e w', (e = .returned (.bool true) ∧ Below W.heap.size W w') → Q e w') := fun e w' hh => by rw [← hQ]; exact hh
  clear hQ
  obtain ⟨n, hn⟩ : ∃ n, W.heap.size = n := ⟨_, rfl⟩
  obtain ⟨W1, hW1⟩ : ∃ W1, W1 = W.alloc (.cells (cfC cf).toArray 23) := ⟨_, rfl⟩
  have hB1 : Below n W W1 := by rw [hW1, ← hn]; exact (Below.refl W.heap.size W).alloc (Nat.le_refl _) _
  have hx1 : W1.heap[n]? = some (.cells (cfC cf).toArray 23) := by rw [hW1, ← hn]; exact blk_new W _
  have hs1 : W1.heap.size = n + 1 := by rw [hW1, ← hn]; simp
  have HC1 : Hid (W1.heap[n]? = some (.cells (cfC cf).toArray 23)) := hx1
  have HB1 : Hid (Below n W W1) := hB1
  have HN : Hid (W.heap.size = n) := hn
  have HS1 : Hid (W1.heap.size = n + 1) := hs1
  have HO : Hid (OpsAt W v os) := ho
  have HI : Hid (∀ o ∈ os, K16 o.d) := hi
  have HLC : Hid _ := at_C hx1
  have hsl : ∃ x m, v = .slice x os.length m := by obtain ⟨ad, cap, e, _⟩ := ho; exact ⟨_, _, e⟩
  have hll : os.length ≤ maxLen := by obtain ⟨ad, cap, e, h1, h2, _⟩ := ho; omega
  have hlm : (os.length : Int) ≤ 9223372036854775807 := by unfold maxLen at hll; omega
  have e1 := hW1.symm
  obtain ⟨sx, sm, rfl⟩ := hsl
  clear hB1 hx1 hW1 ho hi hll
  by_cases hg : ¬ cf.Ok
  · have HNB : Hid _ := fun X => New_bad hg X
    have HRB : Hid _ := fun X => RNew_bad hg X
    clear hg
    go_enter Try.func4, Try.ntmps4
    go_wp2_with first
      | ((with_reducible show wpList _ _ _ ({ dst := _, op := Op.load 23 (Operand.tmp 2), type := _, pos := _, after := _, guard := _ } :: _) _ _); refine armL (.tmp 2) 23 rfl rfl rfl HLC.out ?_)
    refine Calls.mono (HNB.out W1) ?_
    rintro e w2 ⟨rfl, hb2⟩
    have HL2 : Hid _ := at_C (blk_on HC1.out hb2)
    have HB2 : Hid (Below W1.heap.size W1 w2) := hb2
    clear hb2 HNB HLC e1 hn hs1
    go_wp2_with first
      | ((with_reducible show wpList _ _ _ ({ dst := _, op := Op.load 23 (Operand.tmp 2), type := _, pos := _, after := _, guard := _ } :: _) _ _); refine armL (.tmp 2) 23 rfl rfl rfl HL2.out ?_)
    refine Calls.mono (HRB.out w2) ?_
    rintro e w3 ⟨rfl, hb3⟩
    have HB3 : Hid (Below W1.heap.size W1 w3) := HB2.out.trans (hb3.mono HB2.out.size)
    clear hb3 HRB HB2 HL2
    go_wp2_with fail
    refine Calls.mono (awake_any w3) ?_
    rintro e w4 ⟨rfl, hb4⟩
    have HF : Hid (Below W.heap.size W w4) := by
      have h1 := HB1.out
      have h2 := HB3.out.trans (hb4.mono HB3.out.size)
      rw [HN.out]
      exact h1.trans (h2.mono (by rw [HS1.out]; omega))
    clear hb4 HB3
    go_wp2
    go_loopw [9] (fun i wr => i = .int .i64 0 ∧ wr = w4) (fun _ _ => 0)
    case atStart => exact ⟨rfl, rfl⟩
    case round =>
      obtain ⟨rfl, rfl⟩ := hrel
      go_wp2
      try go_returns
      exact HQ.out _ _ ⟨rfl, HF.out⟩
  · replace hg : cf.Ok := Classical.not_not.1 hg
    have HCF : Hid cf.Ok := hg
    have HNG : Hid _ := New_cch hg W1
    have HRG : Hid _ := fun X => RNew_good hg X
    clear hg
    go_enter Try.func4, Try.ntmps4
    go_wp2_with first
      | ((with_reducible show wpList _ _ _ ({ dst := _, op := Op.load 23 (Operand.tmp 2), type := _, pos := _, after := _, guard := _ } :: _) _ _); refine armL (.tmp 2) 23 rfl rfl rfl HLC.out ?_)
    refine Calls.mono HNG.out ?_
    rintro e w2 ⟨p, pb, mb, rfl, hc2⟩
    have HL2 : Hid _ := at_C ((hc2.bl.block n (by omega)).trans HC1.out)
    have HC2 : Hid (Cch W1.heap.size W1 w2 p pb mb cf 0 []) := hc2
    clear hc2 HNG HLC e1 hn hs1
    go_wp2_with first
      | ((with_reducible show wpList _ _ _ ({ dst := _, op := Op.load 23 (Operand.tmp 2), type := _, pos := _, after := _, guard := _ } :: _) _ _); refine armL (.tmp 2) 23 rfl rfl rfl HL2.out ?_)
    refine Calls.mono (HRG.out w2) ?_
    rintro e w3 ⟨rb, rfl, hd3, hb3, hr3⟩
    have HJ3 : Hid (Jn W1.heap.size W1 w3 p pb mb rb cf 0 [] []) := Jn.new HCF.out HC2.out hb3 hd3 hr3
    clear hb3 hd3 hr3 HC2 HL2 HRG
    go_wp2_with fail
    refine Calls.mono (awake_any w3) ?_
    rintro e w4 ⟨rfl, hb4⟩
    have HJ4 : Hid (InvR W1.heap.size W1 w4 p pb mb rb cf) := ⟨0, [], [], HJ3.out.on hb4⟩
    clear hb4 HJ3
    go_wp2
    go_loopw [9] (fun i wr => ∃ k : Nat, k ≤ os.length ∧ i = .int .i64 k ∧ InvR W1.heap.size W1 wr p pb mb rb cf) (fun i _ => os.length - (intOf i).toNat)
    case atStart => exact ⟨0, Nat.zero_le _, rfl, HJ4.out⟩
    case round =>
      obtain ⟨k, hk, rfl, hinv⟩ := hrel
      have HV : Hid (InvR W1.heap.size W1 wr p pb mb rb cf) := hinv
      clear hinv
      by_cases hlt : k < os.length
      · by_cases h1 : k < 200
        · skip
          obtain ⟨o, hoo⟩ : ∃ o, os[k]? = some o := ⟨_, List.getElem?_eq_getElem hlt⟩
          obtain ⟨now, L, D, hj⟩ := HV.out
          obtain ⟨g, off, cap, hvs, hcap, hmx, hgl, hcs⟩ := HO.out.at (W' := W1) (by rw [HN.out]; exact HB1.out) hoo
          obtain ⟨rfl, rfl⟩ : sx = some ⟨g, off, none⟩ ∧ sm = cap := by injection hvs with a1 _ a3; exact ⟨a1, a3⟩
          have HOK : Hid (K16 o.d) := HI.out o (List.mem_of_getElem? hoo)
          have HG : Hid (g < n + 1 ∧ CellsAt W1 g (off + k * 19) o.c) := ⟨by have h9 := hgl; rw [HN.out] at h9; omega, hcs⟩
          have HBW : Hid (Below (n + 1) W1 wr) := by have h9 := hj.c.bl; rw [HS1.out] at h9; exact h9
          have q1 : decide ((k : Int) < os.length) = true := by simpa using hlt
          have q2 : decide ((k : Int) < 200) = true := decide_eq_true (by omega)
          have w9 : IntKind.i64.wrap ((k : Int) + 1) = (k : Int) + 1 := wrap_i64 _ ⟨by omega, by omega⟩
          have HLT : Hid (k < os.length) := hlt
          clear hvs hcs hoo hcap hmx hgl hk HV
          go_wp2_with fail
          refine wp_region_held (S := fun X => Below (n + 1) W1 X) (by kernel_rfl) ?_
          show wpAnyH _ _ _ _ _ 20 (Array.replicate 20 false) _ wr.drew
          have s0 : Below (n + 1) W1 wr.drew := HBW.out.drew
          have HST := step_any (hj.on ((Below.refl _ wr).drew)) o HOK.out
          generalize wr.drew = V0 at *
          refine take_wT (i := 0) (d := some 50) (v := .pointer (some ⟨p, 0, none⟩)) rfl rfl rfl (by kernel_rfl) (by kernel_rfl) (by kernel_rfl) (fun _ _ d _ _ h => by cases d <;> exact h) (fun X hS => by kernel_rfl) s0 ?_
          simp only [Act.put, List.setIfInBounds_toArray, List.set_cons_zero, List.set_cons_succ]
          refine take_wT (i := 1) (d := some 51) (v := .pointer (some ⟨rb, 0, none⟩)) rfl rfl rfl (by kernel_rfl) (by kernel_rfl) (by kernel_rfl) (fun _ _ d _ _ h => by cases d <;> exact h) (fun X hS => by kernel_rfl) s0 ?_
          simp only [Act.put, List.setIfInBounds_toArray, List.set_cons_zero, List.set_cons_succ]
          refine take_wT (i := 2) (d := some 52) (v := .slice (some ⟨g, off, none⟩) os.length sm) rfl rfl rfl (by kernel_rfl) (by kernel_rfl) (by kernel_rfl) (fun _ _ d _ _ h => by cases d <;> exact h) (fun X hS => by kernel_rfl) s0 ?_
          simp only [Act.put, List.setIfInBounds_toArray, List.set_cons_zero, List.set_cons_succ]
          refine take_wT (i := 3) (d := some 53) (v := .int .i64 (k : Int)) rfl rfl rfl (by kernel_rfl) (by kernel_rfl) (by kernel_rfl) (fun _ _ d _ _ h => by cases d <;> exact h) (fun X hS => by kernel_rfl) s0 ?_
          simp only [Act.put, List.setIfInBounds_toArray, List.set_cons_zero, List.set_cons_succ]
          refine take_wT (i := 4) (d := some 54) (v := .pointer (some ⟨g, off + k * 19, none⟩)) rfl rfl rfl (by kernel_rfl) (by kernel_rfl) (by kernel_rfl) (fun _ _ d _ _ h => by cases d <;> exact h) (fun X hS => ex_ixO (.tmp 52) (.tmp 53) rfl rfl rfl HLT.out) s0 ?_
          simp only [Act.put, List.setIfInBounds_toArray, List.set_cons_zero, List.set_cons_succ]
          refine take_wT (i := 5) (d := some 55) (v := .agg o.c.toArray) rfl rfl rfl (by kernel_rfl) (by kernel_rfl) (by kernel_rfl) (fun _ _ d _ _ h => by cases d <;> exact h) (fun X hS => ex_loadA (.tmp 54) 37 rfl rfl (op_load HOK.out (fun i u hi => (hS.cell (p := ⟨g, _, none⟩) HG.out.1).trans (HG.out.2 i u hi)))) s0 ?_
          simp only [Act.put, List.setIfInBounds_toArray, List.set_cons_zero, List.set_cons_succ]
          refine all_wT (i := 6) (by kernel_rfl) rfl rfl ?_
          refine wp_call (d := some 56) 10 _ rfl (by kernel_rfl) (callR HST) ?_
          rintro _ X1 ⟨rfl, now', L', D', hj1⟩
          have s1 : Below (n + 1) W1 X1 := by have h9 := hj1.c.bl; rw [HS1.out] at h9; exact h9
          refine ⟨s1, ?_⟩
          simp only [Act.put, List.setIfInBounds_toArray, List.set_cons_zero, List.set_cons_succ]
          refine take_wT (i := 7) (d := some 57) (v := .bool false) rfl rfl rfl (by kernel_rfl) (by kernel_rfl) (by kernel_rfl) (fun _ _ d _ _ h => by cases d <;> exact h) (fun X hS => ex_notP (c := true) (.tmp 56) rfl rfl) s1 ?_
          simp only [Act.put, List.setIfInBounds_toArray, List.set_cons_zero, List.set_cons_succ]
          refine take_wT (i := 8) (d := some 58) (v := .bool false) rfl rfl rfl (by kernel_rfl) (by kernel_rfl) (by kernel_rfl) (fun _ _ d _ _ h => by cases d <;> exact h) (fun X hS => by kernel_rfl) s1 ?_
          simp only [Act.put, List.setIfInBounds_toArray, List.set_cons_zero, List.set_cons_succ]
          refine take_wT (i := 9) (d := some 59) (v := .pointer (some ⟨p, 0, none⟩)) rfl rfl rfl (by kernel_rfl) (by kernel_rfl) (by kernel_rfl) (fun _ _ d _ _ h => by cases d <;> exact h) (fun X hS => by kernel_rfl) s1 ?_
          simp only [Act.put, List.setIfInBounds_toArray, List.set_cons_zero, List.set_cons_succ]
          refine take_wT (i := 11) (d := some 61) (v := .pointer (some ⟨n, 0, none⟩)) rfl rfl rfl (by kernel_rfl) (by kernel_rfl) (by kernel_rfl) (fun _ _ d _ _ h => by cases d <;> exact h) (fun X hS => by kernel_rfl) s1 ?_
          simp only [Act.put, List.setIfInBounds_toArray, List.set_cons_zero, List.set_cons_succ]
          refine take_wT (i := 12) (d := some 62) (v := .int .i64 cf.lim) rfl rfl rfl (by kernel_rfl) (by kernel_rfl) (by kernel_rfl) (fun _ _ d _ _ h => by cases d <;> exact h) (fun X hS => ex_loadA (.tmp 61) 3 rfl rfl (ld_int ((hS.cell (p := ⟨n, 0, none⟩) (Nat.lt_succ_self n)).trans (blk_cell (j := 0) HC1.out rfl)))) s1 ?_
          simp only [Act.put, List.setIfInBounds_toArray, List.set_cons_zero, List.set_cons_succ]
          refine all_wT (i := 10) (by kernel_rfl) rfl rfl ?_
          refine wp_call (d := some 60) 12 _ rfl (by kernel_rfl) (callR hj1.c.len) ?_
          rintro _ X2 ⟨rfl, hx2⟩
          obtain rfl := hx2.symm
          refine ⟨s1, ?_⟩
          simp only [Act.put, List.setIfInBounds_toArray, List.set_cons_zero, List.set_cons_succ]
          refine take_wT (i := 13) (d := some 63) (v := .bool false) rfl rfl rfl (by kernel_rfl) (by kernel_rfl) (by kernel_rfl) (fun _ _ d _ _ h => by cases d <;> exact h) (fun X hS => ex_gtrN (.tmp 60) (.tmp 62) rfl rfl rfl (decide_eq_false (by have h9 := hj1.n; omega))) s1 ?_
          simp only [Act.put, List.setIfInBounds_toArray, List.set_cons_zero, List.set_cons_succ]
          refine take_wT (i := 14) (d := some 64) (v := .bool false) rfl rfl rfl (by kernel_rfl) (by kernel_rfl) (by kernel_rfl) (fun _ _ d _ _ h => by cases d <;> exact h) (fun X hS => ex_pickP (c := false) (.tmp 58) (.const (.bool true)) (.tmp 63) rfl rfl rfl rfl) s1 ?_
          simp only [Act.put, List.setIfInBounds_toArray, List.set_cons_zero, List.set_cons_succ]
          refine take_wT (i := 15) (d := some 65) (v := .bool false) rfl rfl rfl (by kernel_rfl) (by kernel_rfl) (by kernel_rfl) (fun _ _ d _ _ h => by cases d <;> exact h) (fun X hS => by kernel_rfl) s1 ?_
          simp only [Act.put, List.setIfInBounds_toArray, List.set_cons_zero, List.set_cons_succ]
          refine take_wT (i := 16) (d := some 66) (v := .pointer (some ⟨p, 0, none⟩)) rfl rfl rfl (by kernel_rfl) (by kernel_rfl) (by kernel_rfl) (fun _ _ d _ _ h => by cases d <;> exact h) (fun X hS => by kernel_rfl) s1 ?_
          simp only [Act.put, List.setIfInBounds_toArray, List.set_cons_zero, List.set_cons_succ]
          refine all_wT (i := 17) (by kernel_rfl) rfl rfl ?_
          refine wp_call (d := some 67) 12 _ rfl (by kernel_rfl) (callR hj1.c.len) ?_
          rintro _ X2 ⟨rfl, hx2⟩
          obtain rfl := hx2.symm
          refine ⟨s1, ?_⟩
          simp only [Act.put, List.setIfInBounds_toArray, List.set_cons_zero, List.set_cons_succ]
          refine take_wT (i := 18) (d := some 68) (v := .bool false) rfl rfl rfl (by kernel_rfl) (by kernel_rfl) (by kernel_rfl) (fun _ _ d _ _ h => by cases d <;> exact h) (fun X hS => ex_lssN (.tmp 67) (.const (.int .i64 0)) rfl rfl rfl (decide_eq_false (by omega))) s1 ?_
          simp only [Act.put, List.setIfInBounds_toArray, List.set_cons_zero, List.set_cons_succ]
          refine take_wT (i := 19) (d := some 69) (v := .bool false) rfl rfl rfl (by kernel_rfl) (by kernel_rfl) (by kernel_rfl) (fun _ _ d _ _ h => by cases d <;> exact h) (fun X hS => ex_pickP (c := false) (.tmp 65) (.const (.bool true)) (.tmp 68) rfl rfl rfl rfl) s1 ?_
          simp only [Act.put, List.setIfInBounds_toArray, List.set_cons_zero, List.set_cons_succ]
          refine wpAnyH_done (by kernel_rfl) ?_ _
          have HJ5 : Hid (Jn W1.heap.size W1 X1 p pb mb rb cf now' L' D') := hj1
          have HB5 : Hid (Below (n + 1) W1 X1) := s1
          have HC4 : Hid (X1.cell? ⟨rb, 4, none⟩ = some (.int .i64 now')) := by obtain ⟨u9, hu9⟩ := hj1.d; exact blk_cell (j := 4) hu9.box rfl
          clear s0 s1 hj hj1 HST HBW
          generalize X1 = w5 at *
          go_wp2_with fail
          refine wp_region_held (S := fun X => Below (n + 1) W1 X ∧ X.cell? ⟨rb, 4, none⟩ = some (.int .i64 now')) (by kernel_rfl) ?_
          show wpAnyH _ _ _ _ _ 16 (Array.replicate 16 false) _ w5.drew
          have s0 : Below (n + 1) W1 w5.drew ∧ w5.drew.cell? ⟨rb, 4, none⟩ = some (.int .i64 now') := ⟨HB5.out.drew, HC4.out⟩
          have hjd := HJ5.out.on ((Below.refl _ w5).drew)
          have HGT := hjd.c.get (Nat.le_trans hjd.len.1 (by decide)) (t := now') ⟨Int.le_refl _, hjd.t.2⟩ HOK.out
          have TFD : Hid (TF w5 w5.drew) := TF.below ((Below.refl _ w5).drew)
          obtain ⟨dv, hdv⟩ := hjd.d
          have hbd := hjd.bd now' o.d
          generalize w5.drew = V0 at *
          refine take_wT (i := 0) (d := some 71) (v := .pointer (some ⟨p, 0, none⟩)) rfl rfl rfl (by kernel_rfl) (by kernel_rfl) (by kernel_rfl) (fun _ _ d _ _ h => by cases d <;> exact h) (fun X hS => by kernel_rfl) s0 ?_
          simp only [Act.put, List.setIfInBounds_toArray, List.set_cons_zero, List.set_cons_succ]
          refine take_wT (i := 1) (d := some 72) (v := .pointer (some ⟨rb, 0, none⟩)) rfl rfl rfl (by kernel_rfl) (by kernel_rfl) (by kernel_rfl) (fun _ _ d _ _ h => by cases d <;> exact h) (fun X hS => by kernel_rfl) s0 ?_
          simp only [Act.put, List.setIfInBounds_toArray, List.set_cons_zero, List.set_cons_succ]
          refine take_wT (i := 2) (d := some 73) (v := .pointer (some ⟨rb, 0, none⟩)) rfl rfl rfl (by kernel_rfl) (by kernel_rfl) (by kernel_rfl) (fun _ _ d _ _ h => by cases d <;> exact h) (fun X hS => by kernel_rfl) s0 ?_
          simp only [Act.put, List.setIfInBounds_toArray, List.set_cons_zero, List.set_cons_succ]
          refine take_wT (i := 3) (d := some 74) (v := .pointer (some ⟨rb, 4, none⟩)) rfl rfl rfl (by kernel_rfl) (by kernel_rfl) (by kernel_rfl) (fun _ _ d _ _ h => by cases d <;> exact h) (fun X hS => by kernel_rfl) s0 ?_
          simp only [Act.put, List.setIfInBounds_toArray, List.set_cons_zero, List.set_cons_succ]
          refine take_wT (i := 4) (d := some 75) (v := .int .i64 now') rfl rfl rfl (by kernel_rfl) (by kernel_rfl) (by kernel_rfl) (fun _ _ d _ _ h => by cases d <;> exact h) (fun X hS => ex_loadA (.tmp 74) 3 rfl rfl (ld_int hS.2)) s0 ?_
          simp only [Act.put, List.setIfInBounds_toArray, List.set_cons_zero, List.set_cons_succ]
          refine take_wT (i := 5) (d := some 76) (v := .slice (some ⟨g, off, none⟩) os.length sm) rfl rfl rfl (by kernel_rfl) (by kernel_rfl) (by kernel_rfl) (fun _ _ d _ _ h => by cases d <;> exact h) (fun X hS => by kernel_rfl) s0 ?_
          simp only [Act.put, List.setIfInBounds_toArray, List.set_cons_zero, List.set_cons_succ]
          refine take_wT (i := 6) (d := some 77) (v := .int .i64 (k : Int)) rfl rfl rfl (by kernel_rfl) (by kernel_rfl) (by kernel_rfl) (fun _ _ d _ _ h => by cases d <;> exact h) (fun X hS => by kernel_rfl) s0 ?_
          simp only [Act.put, List.setIfInBounds_toArray, List.set_cons_zero, List.set_cons_succ]
          refine take_wT (i := 7) (d := some 78) (v := .pointer (some ⟨g, off + k * 19, none⟩)) rfl rfl rfl (by kernel_rfl) (by kernel_rfl) (by kernel_rfl) (fun _ _ d _ _ h => by cases d <;> exact h) (fun X hS => ex_ixO (.tmp 76) (.tmp 77) rfl rfl rfl HLT.out) s0 ?_
          simp only [Act.put, List.setIfInBounds_toArray, List.set_cons_zero, List.set_cons_succ]
          refine take_wT (i := 8) (d := some 79) (v := .pointer (some ⟨g, off + k * 19 + 2, none⟩)) rfl rfl rfl (by kernel_rfl) (by kernel_rfl) (by kernel_rfl) (fun _ _ d _ _ h => by cases d <;> exact h) (fun X hS => by kernel_rfl) s0 ?_
          simp only [Act.put, List.setIfInBounds_toArray, List.set_cons_zero, List.set_cons_succ]
          refine take_wT (i := 9) (d := some 80) (v := .agg (u8s o.d).toArray) rfl rfl rfl (by kernel_rfl) (by kernel_rfl) (by kernel_rfl) (fun _ _ d _ _ h => by cases d <;> exact h) (fun X hS => ex_loadA (.tmp 79) 35 rfl rfl (op_dst HOK.out (fun i u hi => (hS.1.cell (p := ⟨g, _, none⟩) HG.out.1).trans (HG.out.2 i u hi)))) s0 ?_
          simp only [Act.put, List.setIfInBounds_toArray, List.set_cons_zero, List.set_cons_succ]
          refine all_wT (i := 10) (by kernel_rfl) rfl rfl ?_
          refine wp_call (d := some 81) 13 _ rfl (by kernel_rfl) (callR HGT) ?_
          rintro _ X1 ⟨rfl, cc1, tf1⟩
          have hd1 := hdv.tf tf1
          have s1 : Below (n + 1) W1 X1 ∧ X1.cell? ⟨rb, 4, none⟩ = some (.int .i64 now') := ⟨by have h9 := cc1.bl; rw [HS1.out] at h9; exact h9, blk_cell (j := 4) hd1.box rfl⟩
          generalize hmv : mtuL cf (live L' now') o.d = mv at *
          refine ⟨s1, ?_⟩
          simp only [Act.put, List.setIfInBounds_toArray, List.set_cons_zero, List.set_cons_succ]
          refine take_wT (i := 11) (d := some 70) (v := .tuple #[.int .i64 mv, .int .i64 0]) rfl rfl rfl (by kernel_rfl) (by kernel_rfl) (by kernel_rfl) (fun _ _ d _ _ h => by cases d <;> exact h) (fun X hS => by kernel_rfl) s1 ?_
          simp only [Act.put, List.setIfInBounds_toArray, List.set_cons_zero, List.set_cons_succ]
          refine take_wT (i := 12) (d := some 82) (v := .int .i64 mv) rfl rfl rfl (by kernel_rfl) (by kernel_rfl) (by kernel_rfl) (fun _ _ d _ _ h => by cases d <;> exact h) (fun X hS => by kernel_rfl) s1 ?_
          simp only [Act.put, List.setIfInBounds_toArray, List.set_cons_zero, List.set_cons_succ]
          refine take_wT (i := 13) (d := some 83) (v := .int .i64 0) rfl rfl rfl (by kernel_rfl) (by kernel_rfl) (by kernel_rfl) (fun _ _ d _ _ h => by cases d <;> exact h) (fun X hS => by kernel_rfl) s1 ?_
          simp only [Act.put, List.setIfInBounds_toArray, List.set_cons_zero, List.set_cons_succ]
          refine take_wT (i := 14) (d := some 10) (v := .int .i64 mv) rfl rfl rfl (by kernel_rfl) (by kernel_rfl) (by kernel_rfl) (fun _ _ d _ _ h => by cases d <;> exact h) (fun X hS => by kernel_rfl) s1 ?_
          simp only [Act.put, List.setIfInBounds_toArray, List.set_cons_zero, List.set_cons_succ]
          refine take_wT (i := 15) (d := some 11) (v := .int .i64 0) rfl rfl rfl (by kernel_rfl) (by kernel_rfl) (by kernel_rfl) (fun _ _ d _ _ h => by cases d <;> exact h) (fun X hS => by kernel_rfl) s1 ?_
          simp only [Act.put, List.setIfInBounds_toArray, List.set_cons_zero, List.set_cons_succ]
          refine wpAnyH_done (by kernel_rfl) ?_ _
          have HS1B : Hid (Below (n + 1) W1 X1 ∧ X1.cell? ⟨rb, 4, none⟩ = some (.int .i64 now')) := s1
          have HCD : Hid (Cch W1.heap.size W1 X1 p pb mb cf now' (live L' now') ∧ TF w5 X1 ∧ Doc rb cf now' D' dv X1) := ⟨cc1, TFD.out.trans tf1, hd1⟩
          have cl3 : X1.cell? ⟨n, 3, none⟩ = some (.int .i64 cf.least) := (s1.1.cell (p := ⟨n, 3, none⟩) (Nat.lt_succ_self n)).trans (blk_cell (j := 3) HC1.out rfl)
          have cl1 : X1.cell? ⟨n, 1, none⟩ = some (.int .i64 cf.link) := (s1.1.cell (p := ⟨n, 1, none⟩) (Nat.lt_succ_self n)).trans (blk_cell (j := 1) HC1.out rfl)
          have q3 : decide (mv < cf.least) = false := decide_eq_false (by have := hbd.1; omega)
          have q4 : decide (mv > cf.link) = false := decide_eq_false (by have := hbd.2; omega)
          have q5 : decide (cf.link < mv) = false := decide_eq_false (by have := hbd.2; omega)
          clear s0 s1 hjd HGT hdv hbd cc1 tf1 hd1 hmv HC4 HB5 TFD
          go_wp2_with fail
          refine wp_region_held (S := fun X => Below (n + 1) W1 X ∧ X.cell? ⟨rb, 4, none⟩ = some (.int .i64 now')) (by kernel_rfl) ?_
          show wpAnyH _ _ _ _ _ 11 (Array.replicate 11 false) _ X1.drew
          have s2 : Below (n + 1) W1 X1.drew ∧ X1.drew.cell? ⟨rb, 4, none⟩ = some (.int .i64 now') := ⟨HS1B.out.1.drew, HS1B.out.2⟩
          have bd1 : Below X1.heap.size X1 X1.drew := (Below.refl _ X1).drew
          have HRG := RGet (HCD.out.2.2.on bd1) (Nat.le_trans HJ5.out.len.2 (by decide)) (t := now') ⟨Int.le_refl _, HJ5.out.t.2⟩ HOK.out
          generalize X1.drew = V2 at *
          refine take_wT (i := 0) (d := some 98) (v := .pointer (some ⟨rb, 0, none⟩)) rfl rfl rfl (by kernel_rfl) (by kernel_rfl) (by kernel_rfl) (fun _ _ d _ _ h => by cases d <;> exact h) (fun X hS => by kernel_rfl) s2 ?_
          simp only [Act.put, List.setIfInBounds_toArray, List.set_cons_zero, List.set_cons_succ]
          refine take_wT (i := 1) (d := some 99) (v := .pointer (some ⟨rb, 0, none⟩)) rfl rfl rfl (by kernel_rfl) (by kernel_rfl) (by kernel_rfl) (fun _ _ d _ _ h => by cases d <;> exact h) (fun X hS => by kernel_rfl) s2 ?_
          simp only [Act.put, List.setIfInBounds_toArray, List.set_cons_zero, List.set_cons_succ]
          refine take_wT (i := 2) (d := some 100) (v := .pointer (some ⟨rb, 0, none⟩)) rfl rfl rfl (by kernel_rfl) (by kernel_rfl) (by kernel_rfl) (fun _ _ d _ _ h => by cases d <;> exact h) (fun X hS => by kernel_rfl) s2 ?_
          simp only [Act.put, List.setIfInBounds_toArray, List.set_cons_zero, List.set_cons_succ]
          refine take_wT (i := 3) (d := some 101) (v := .pointer (some ⟨rb, 4, none⟩)) rfl rfl rfl (by kernel_rfl) (by kernel_rfl) (by kernel_rfl) (fun _ _ d _ _ h => by cases d <;> exact h) (fun X hS => by kernel_rfl) s2 ?_
          simp only [Act.put, List.setIfInBounds_toArray, List.set_cons_zero, List.set_cons_succ]
          refine take_wT (i := 4) (d := some 102) (v := .int .i64 now') rfl rfl rfl (by kernel_rfl) (by kernel_rfl) (by kernel_rfl) (fun _ _ d _ _ h => by cases d <;> exact h) (fun X hS => ex_loadA (.tmp 101) 3 rfl rfl (ld_int hS.2)) s2 ?_
          simp only [Act.put, List.setIfInBounds_toArray, List.set_cons_zero, List.set_cons_succ]
          refine take_wT (i := 5) (d := some 103) (v := .slice (some ⟨g, off, none⟩) os.length sm) rfl rfl rfl (by kernel_rfl) (by kernel_rfl) (by kernel_rfl) (fun _ _ d _ _ h => by cases d <;> exact h) (fun X hS => by kernel_rfl) s2 ?_
          simp only [Act.put, List.setIfInBounds_toArray, List.set_cons_zero, List.set_cons_succ]
          refine take_wT (i := 6) (d := some 104) (v := .int .i64 (k : Int)) rfl rfl rfl (by kernel_rfl) (by kernel_rfl) (by kernel_rfl) (fun _ _ d _ _ h => by cases d <;> exact h) (fun X hS => by kernel_rfl) s2 ?_
          simp only [Act.put, List.setIfInBounds_toArray, List.set_cons_zero, List.set_cons_succ]
          refine take_wT (i := 7) (d := some 105) (v := .pointer (some ⟨g, off + k * 19, none⟩)) rfl rfl rfl (by kernel_rfl) (by kernel_rfl) (by kernel_rfl) (fun _ _ d _ _ h => by cases d <;> exact h) (fun X hS => ex_ixO (.tmp 103) (.tmp 104) rfl rfl rfl HLT.out) s2 ?_
          simp only [Act.put, List.setIfInBounds_toArray, List.set_cons_zero, List.set_cons_succ]
          refine take_wT (i := 8) (d := some 106) (v := .pointer (some ⟨g, off + k * 19 + 2, none⟩)) rfl rfl rfl (by kernel_rfl) (by kernel_rfl) (by kernel_rfl) (fun _ _ d _ _ h => by cases d <;> exact h) (fun X hS => by kernel_rfl) s2 ?_
          simp only [Act.put, List.setIfInBounds_toArray, List.set_cons_zero, List.set_cons_succ]
          refine take_wT (i := 9) (d := some 107) (v := .agg (u8s o.d).toArray) rfl rfl rfl (by kernel_rfl) (by kernel_rfl) (by kernel_rfl) (fun _ _ d _ _ h => by cases d <;> exact h) (fun X hS => ex_loadA (.tmp 106) 35 rfl rfl (op_dst HOK.out (fun i u hi => (hS.1.cell (p := ⟨g, _, none⟩) HG.out.1).trans (HG.out.2 i u hi)))) s2 ?_
          simp only [Act.put, List.setIfInBounds_toArray, List.set_cons_zero, List.set_cons_succ]
          refine all_wT (i := 10) (by kernel_rfl) rfl rfl ?_
          refine wp_call (d := some 108) (R := fun v w' => ∃ m, v = .tuple #[.int .i64 m, .int .i64 0] ∧ MtuP (liveD D' now') o.d cf.link m ∧ (∃ u, Doc rb cf now' (liveD D' now') u w') ∧ FrD rb V2 w') 14 _ rfl (by kernel_rfl) (HRG.mono (fun e w' hh => by obtain ⟨m, e1, e2⟩ := hh; exact ⟨_, e1, m, rfl, e2⟩)) ?_
          rintro _ X3 ⟨m9, rfl, hm9, hd9, f9⟩
          have hj9 : Jn (n + 1) W1 X3 p pb mb rb cf now' (live L' now') (liveD D' now') := by
            obtain ⟨r1, r2, r3⟩ := HJ5.out.lives now'
            have h8 := HJ5.out
            have h7 := HCD.out.1.on bd1
            rw [← HS1.out]
            exact h8.both h7 (HCD.out.2.1.trans (TF.below bd1)) hd9 f9 ⟨Int.le_refl _, h8.t.2⟩ r1 r2 r3
          have s3 : Below (n + 1) W1 X3 ∧ X3.cell? ⟨rb, 4, none⟩ = some (.int .i64 now') := ⟨hj9.c.bl, by obtain ⟨u9, hu9⟩ := hj9.d; exact blk_cell (j := 4) hu9.box rfl⟩
          refine ⟨s3, ?_⟩
          simp only [Act.put, List.setIfInBounds_toArray, List.set_cons_zero, List.set_cons_succ]
          refine wpAnyH_done (by kernel_rfl) ?_ _
          have HV6 : Hid (InvR W1.heap.size W1 X3 p pb mb rb cf) := ⟨now', _, _, by rw [HS1.out]; exact hj9⟩
          clear s2 s3 bd1 HRG hm9 hd9 f9 hj9
          go_wp2
          go_roundw
          case rel => exact ⟨k + 1, HLT.out, rfl, HV6.out⟩
          case measure => show os.length - (k + 1) < os.length - k; have := HLT.out; omega
        · have q2 : decide ((k : Int) < 200) = false := decide_eq_false (by omega)
          have q1 : decide ((k : Int) < os.length) = true := by simpa using hlt
          have HF : Hid (Below W.heap.size W wr) := by
            obtain ⟨now, L, D, hj⟩ := HV.out
            rw [HN.out]
            exact HB1.out.trans (hj.c.bl.mono (by rw [HS1.out]; omega))
          go_wp2
          try go_returns
          exact HQ.out _ _ ⟨rfl, HF.out⟩
      · obtain rfl : k = os.length := by omega
        have HF : Hid (Below W.heap.size W wr) := by
          obtain ⟨now, L, D, hj⟩ := HV.out
          rw [HN.out]
          exact HB1.out.trans (hj.c.bl.mono (by rw [HS1.out]; omega))
        go_wp2
        try go_returns
        exact HQ.out _ _ ⟨rfl, HF.out⟩
open Go.ChangeShapes Go.WideShapes Go.ChangeAt
set_option maxRecDepth 100000 in
theorem pathmtuBounds_open {H : Type} {enc : TypeId × Value → H} {W : World} {base : Nat} (v0 v1 : Value) {d0 d1 : DataW H} {p0 p1 : List MemPlace}
    (o0 : Value.okWide Try.prog W .any base 23 v0) (h0 : DataW.Trod enc Try.prog W 0 (fun _ => true) true 23 v0 d0 p0) (z0 : ∀ k ∈ d0.weights Try.prog 23, k ≤ reachBytes)
    (o1 : Value.okWide Try.prog W .any base 24 v1) (h1 : DataW.Trod enc Try.prog W 0 (fun _ => true) true 24 v1 d1 p1) (z1 : ∀ k ∈ d1.weights Try.prog 24, k ≤ reachBytes) :
    Calls Try.prog 4 #[v0, v1] W fun e w' => e = .returned (.bool true) ∧ Below W.heap.size W w' := by
  obtain ⟨cf, rfl, _⟩ := open_conf h0
  obtain ⟨os, ho, hi⟩ := open_ops o1 h1
  exact pathmtuBounds_walk ho hi
end Go.Proofs.Ytgndiblonhgihaa
