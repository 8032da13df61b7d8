/-
  The statement PathmtuRuns.
-/
import Derived.Test.YtgndiblonhgihaaFold29
import Derived.Deep.Slices
import Derived.OpenShut
namespace Go.Proofs.Ytgndiblonhgihaa
open Go Go.RowKit Go.Lib
set_option linter.unusedVariables false
set_option linter.unusedSimpArgs false

set_option maxHeartbeats 8000000 in
set_option maxRecDepth 100000 in
theorem same_any {B : Nat} {W0 W : World} {p pb mb rb : Nat} {cf : Cf} {now : Int} {L : List (PE × Nat)} {D : List PE} (h : Jn B W0 W p pb mb rb cf now L D) :
    Calls Try.prog 11 #[.pointer (some ⟨p, 0, none⟩), .pointer (some ⟨rb, 0, none⟩)] W fun e w' => e = .returned (.bool true) ∧ Below W.heap.size W w' := by
  generalize hQ : (fun (e : Ending) (w' : World) => e = .returned (.bool true) ∧ Below W.heap.size W w') = Q
  have HQ : Hid (∀ e w', (e = .returned (.bool true) ∧ Below W.heap.size W w') → Q e w') := fun e w' hh => by rw [← hQ]; exact hh
  clear hQ
  obtain ⟨v, hd⟩ := h.d
  have HN1 : Hid _ := h.c.next
  have HN2 : Hid _ := RNext hd (Nat.le_trans h.len.2 (by decide))
  have HJ : Hid (Jn B W0 W p pb mb rb cf now L D ∧ Doc rb cf now D v W) := ⟨h, hd⟩
  clear h hd
  go_enter Try.func11, Try.ntmps11
  go_wp2_with fail
  refine Calls.mono HN1.out ?_
  rintro e w1 ⟨rfl, rfl⟩
  generalize hnl : nextL L = nv at *
  have HNL : Hid (nextL L = nv) := hnl
  clear hnl HN1
  have hnv : ∃ t b, nv = .tuple #[.int .i64 t, .bool b] := by
    rw [← HNL.out]
    cases L with
    | nil => exact ⟨_, _, rfl⟩
    | cons x L => exact ⟨_, _, rfl⟩
  obtain ⟨t0, b0, rfl⟩ := hnv
  go_wp2_with fail
  refine Calls.mono HN2.out ?_
  rintro e w2 ⟨t, b, rfl, hp, hb2⟩
  have he := HJ.out.1.r.next HJ.out.1.c.st hp
  rw [HNL.out] at he
  injection he with he
  injection he with he
  injection he with he1 he
  injection he with he2 he
  injection he1 with he1 he1b
  injection he2 with he2
  subst he1b
  subst he2
  have HB2 : Hid (Below w1.heap.size w1 w2) := hb2
  have hd2 := HJ.out.2.on hb2
  obtain ⟨va, vc, hva⟩ := own_slc hd2.row
  subst hva
  have hll : D.length = L.length := HJ.out.1.r.len
  rw [hll] at hd2
  have c5 : ∀ x : Hi w2, x.W.cell? ⟨rb, 5, none⟩ = some (.slice va L.length vc) := fun x => by rw [← hll]; rw [hll]; exact blk_cell (by have := (HJ.out.2.on hb2).on x.below; rw [hll] at this; exact this.box) rfl
  have HLN : Hid (∀ x : Hi w2, Calls Try.prog 12 #[.pointer (some ⟨p, 0, none⟩)] x.W fun e w' => e = .returned (.int .i64 L.length) ∧ Below x.W.heap.size x.W w') := fun x => by
    refine ((HJ.out.1.on hb2).on x.below).c.len.mono ?_
    rintro e w' ⟨rfl, rfl⟩
    exact ⟨rfl, Below.refl _ _⟩
  have q1 : (t0 == t0) = true := by simp
  have q2 : (b0 == b0) = true := by simp
  clear hp hd2 hll HNL HN2 hb2
  go_wp2_with fail
  refine wp_region_hi (by kernel_rfl) (by kernel_rfl) ?_
  repeat (first | go_big_quiet_skip | (go_big_quiet_want; go_big_quiet_op; first | go_big_quiet_on | go_big_quiet_call (first | (go_at_call 12; with_reducible exact Hi.calls (HLN.out _)))))
  refine wpQuiet_nil ?_
  intro _ hw
  obtain ⟨yy, rfl⟩ := hw
  have HF : Hid (Below w1.heap.size w1 yy.W) := HB2.out.trans (yy.below.mono HB2.out.size)
  go_wp2_with fail
  try go_returns
  exact HQ.out _ _ ⟨rfl, HF.out⟩
/-- Calls that a slice holds. -/
def OpsAt (W : World) (v : Value) (os : List OpP) : Prop :=
  ∃ ad cap, v = .slice ad os.length cap ∧ os.length ≤ cap ∧ cap ≤ maxLen ∧ (os ≠ [] → ∃ g off, ad = some ⟨g, off, none⟩ ∧ g < W.heap.size ∧ ∀ (j : Nat) o, os[j]? = some o → CellsAt W g (off + j * 19) o.c)
theorem OpsAt.at {W W' : World} {v : Value} {os : List OpP} (h : OpsAt W v os) (hb : Below W.heap.size W W') {k : Nat} {o : OpP} (ho : os[k]? = some o) : ∃ g off cap, v = .slice (some ⟨g, off, none⟩) os.length cap ∧ os.length ≤ cap ∧ cap ≤ maxLen ∧ g < W.heap.size ∧ CellsAt W' g (off + k * 19) o.c := by
  obtain ⟨ad, cap, e, h1, h2, h3⟩ := h
  obtain ⟨g, off, e1, hg, hc⟩ := h3 (fun e0 => by rw [e0] at ho; simp at ho)
  exact ⟨g, off, cap, by rw [e, e1], h1, h2, hg, fun i u hu => (hb.cell (p := ⟨g, _, none⟩) hg).trans (hc k o ho i u hu)⟩
theorem op_load {W : World} {g o : Nat} {q : OpP} (hk : K16 q.d) (h : CellsAt W g o q.c) : (Instr.loadAt 37 (.pointer (some ⟨g, o, none⟩))).run Try.prog W = .ok (.agg q.c.toArray) W :=
  agg_load (n := 19) (fun w => by kernel_rfl) (fun w => by kernel_rfl) (OpP.len hk) h
theorem Jn.new {B : Nat} {W0 W W' : World} {p pb mb rb : Nat} {cf : Cf} (hcf : cf.Ok) (hc : Cch B W0 W p pb mb cf 0 []) (hb : Below W.heap.size W W') (hd : Doc rb cf 0 [] (.slice none 0 0) W') (hr : W.heap.size ≤ rb) : Jn B W0 W' p pb mb rb cf 0 [] [] := by
  have h1 := hc.bl.size
  have h2 := hc.le
  exact ⟨hc.on hb, ⟨_, hd⟩, ⟨.refl _, List.Pairwise.nil⟩, by omega, ⟨by decide, by decide⟩, by have := hcf.lim; simp; omega, hcf, fun x hx => by cases hx⟩
/-- Both caches, behind calls. -/
def InvR (B : Nat) (W1 wr : World) (p pb mb rb : Nat) (cf : Cf) : Prop := ∃ now L D, Jn B W1 wr p pb mb rb cf now L D
set_option maxHeartbeats 16000000 in
set_option maxRecDepth 100000 in
theorem pathmtuRuns_walk {W : World} {cf : Cf} {v : Value} {os : List OpP} (ho : OpsAt W v os) (hi : ∀ o ∈ os, K16 o.d) :
    Calls Try.prog 3 #[.agg (cfC cf).toArray, v] W fun e w' => e = .returned (.bool true) ∧ Below W.heap.size W w' := by
  generalize hQ : (fun (e : Ending) (w' : World) => e = .returned (.bool true) ∧ Below W.heap.size W w') = Q
  have HQ : Hid (∀ e w', (e = .returned (.bool true) ∧ Below W.heap.size W w') → Q e w') := fun e w' hh => by rw [← hQ]; exact hh
  clear hQ
  obtain ⟨n, hn⟩ : ∃ n, W.heap.size = n := ⟨_, rfl⟩
  obtain ⟨W1, hW1⟩ : ∃ W1, W1 = W.alloc (.cells (cfC cf).toArray 23) := ⟨_, rfl⟩
  have hB1 : Below n W W1 := by rw [hW1, ← hn]; exact (Below.refl W.heap.size W).alloc (Nat.le_refl _) _
  have hx1 : W1.heap[n]? = some (.cells (cfC cf).toArray 23) := by rw [hW1, ← hn]; exact blk_new W _
  have hs1 : W1.heap.size = n + 1 := by rw [hW1, ← hn]; simp
  have HC1 : Hid (W1.heap[n]? = some (.cells (cfC cf).toArray 23)) := hx1
  have HB1 : Hid (Below n W W1) := hB1
  have HN : Hid (W.heap.size = n) := hn
  have HS1 : Hid (W1.heap.size = n + 1) := hs1
  have HO : Hid (OpsAt W v os) := ho
  have HI : Hid (∀ o ∈ os, K16 o.d) := hi
  have HLC : Hid _ := at_C hx1
  have hsl : ∃ x m, v = .slice x os.length m := by obtain ⟨ad, cap, e, _⟩ := ho; exact ⟨_, _, e⟩
  have hll : os.length ≤ maxLen := by obtain ⟨ad, cap, e, h1, h2, _⟩ := ho; omega
  have hlm : (os.length : Int) ≤ 9223372036854775807 := by unfold maxLen at hll; omega
  have e1 := hW1.symm
  obtain ⟨sx, sm, rfl⟩ := hsl
  clear hB1 hx1 hW1 ho hi hll
  by_cases hg : ¬ cf.Ok
  · have HNB : Hid _ := fun X => New_bad hg X
    have HRB : Hid _ := fun X => RNew_bad hg X
    clear hg
    go_enter Try.func3, Try.ntmps3
    go_wp2_with first
      | ((with_reducible show wpList _ _ _ ({ dst := _, op := Op.load 23 (Operand.tmp 2), type := _, pos := _, after := _, guard := _ } :: _) _ _); refine armL (.tmp 2) 23 rfl rfl rfl HLC.out ?_)
    refine Calls.mono (HNB.out W1) ?_
    rintro e w2 ⟨rfl, hb2⟩
    have HL2 : Hid _ := at_C (blk_on HC1.out hb2)
    have HB2 : Hid (Below W1.heap.size W1 w2) := hb2
    clear hb2 HNB HLC e1 hn hs1
    go_wp2_with first
      | ((with_reducible show wpList _ _ _ ({ dst := _, op := Op.load 23 (Operand.tmp 2), type := _, pos := _, after := _, guard := _ } :: _) _ _); refine armL (.tmp 2) 23 rfl rfl rfl HL2.out ?_)
    refine Calls.mono (HRB.out w2) ?_
    rintro e w3 ⟨rfl, hb3⟩
    have HB3 : Hid (Below W1.heap.size W1 w3) := HB2.out.trans (hb3.mono HB2.out.size)
    clear hb3 HRB HB2 HL2
    go_wp2_with fail
    refine Calls.mono (awake_any w3) ?_
    rintro e w4 ⟨rfl, hb4⟩
    have HF : Hid (Below W.heap.size W w4) := by
      have h1 := HB1.out
      have h2 := HB3.out.trans (hb4.mono HB3.out.size)
      rw [HN.out]
      exact h1.trans (h2.mono (by rw [HS1.out]; omega))
    clear hb4 HB3
    go_wp2
    go_loopw [9] (fun i wr => i = .int .i64 0 ∧ wr = w4) (fun _ _ => 0)
    case atStart => exact ⟨rfl, rfl⟩
    case round =>
      obtain ⟨rfl, rfl⟩ := hrel
      go_wp2
      try go_returns
      exact HQ.out _ _ ⟨rfl, HF.out⟩
  · replace hg : cf.Ok := Classical.not_not.1 hg
    have HCF : Hid cf.Ok := hg
    have HNG : Hid _ := New_cch hg W1
    have HRG : Hid _ := fun X => RNew_good hg X
    clear hg
    go_enter Try.func3, Try.ntmps3
    go_wp2_with first
      | ((with_reducible show wpList _ _ _ ({ dst := _, op := Op.load 23 (Operand.tmp 2), type := _, pos := _, after := _, guard := _ } :: _) _ _); refine armL (.tmp 2) 23 rfl rfl rfl HLC.out ?_)
    refine Calls.mono HNG.out ?_
    rintro e w2 ⟨p, pb, mb, rfl, hc2⟩
    have HL2 : Hid _ := at_C ((hc2.bl.block n (by omega)).trans HC1.out)
    have HC2 : Hid (Cch W1.heap.size W1 w2 p pb mb cf 0 []) := hc2
    clear hc2 HNG HLC e1 hn hs1
    go_wp2_with first
      | ((with_reducible show wpList _ _ _ ({ dst := _, op := Op.load 23 (Operand.tmp 2), type := _, pos := _, after := _, guard := _ } :: _) _ _); refine armL (.tmp 2) 23 rfl rfl rfl HL2.out ?_)
    refine Calls.mono (HRG.out w2) ?_
    rintro e w3 ⟨rb, rfl, hd3, hb3, hr3⟩
    have HJ3 : Hid (Jn W1.heap.size W1 w3 p pb mb rb cf 0 [] []) := Jn.new HCF.out HC2.out hb3 hd3 hr3
    clear hb3 hd3 hr3 HC2 HL2 HRG
    go_wp2_with fail
    refine Calls.mono (awake_any w3) ?_
    rintro e w4 ⟨rfl, hb4⟩
    have HJ4 : Hid (InvR W1.heap.size W1 w4 p pb mb rb cf) := ⟨0, [], [], HJ3.out.on hb4⟩
    clear hb4 HJ3
    go_wp2
    go_loopw [9] (fun i wr => ∃ k : Nat, k ≤ os.length ∧ i = .int .i64 k ∧ InvR W1.heap.size W1 wr p pb mb rb cf) (fun i _ => os.length - (intOf i).toNat)
    case atStart => exact ⟨0, Nat.zero_le _, rfl, HJ4.out⟩
    case round =>
      obtain ⟨k, hk, rfl, hinv⟩ := hrel
      have HV : Hid (InvR W1.heap.size W1 wr p pb mb rb cf) := hinv
      clear hinv
      by_cases hlt : k < os.length
      · by_cases h1 : k < 200
        · obtain ⟨o, hoo⟩ : ∃ o, os[k]? = some o := ⟨_, List.getElem?_eq_getElem hlt⟩
          obtain ⟨now, L, D, hj⟩ := HV.out
          obtain ⟨g, off, cap, hvs, hcap, hmx, hgl, hcs⟩ := HO.out.at (W' := wr) (by rw [HN.out]; exact HB1.out.trans (hj.c.bl.mono (by rw [HS1.out]; omega))) hoo
          obtain ⟨rfl, rfl⟩ : sx = some ⟨g, off, none⟩ ∧ sm = cap := by injection hvs with a1 _ a3; exact ⟨a1, a3⟩
          have HLD : Hid _ := op_load (HI.out o (List.mem_of_getElem? hoo)) hcs
          have HST : Hid _ := step_any hj o (HI.out o (List.mem_of_getElem? hoo))
          have q1 : decide ((k : Int) < os.length) = true := by simpa using hlt
          have q2 : decide ((k : Int) < 200) = true := decide_eq_true (by omega)
          have w9 : IntKind.i64.wrap ((k : Int) + 1) = (k : Int) + 1 := wrap_i64 _ ⟨by omega, by omega⟩
          have HLT : Hid (k < os.length) := hlt
          clear hj hvs hcs hoo hcap hmx hgl hk HV
          generalize o.c = CC at *
          go_wp2_with first
            | ((with_reducible show wpList _ _ _ ({ dst := _, op := Op.load 37 (Operand.tmp 52), type := _, pos := _, after := _, guard := _ } :: _) _ _); refine armL (.tmp 52) 37 rfl rfl rfl HLD.out ?_)
          refine Calls.mono HST.out ?_
          rintro e w5 ⟨rfl, now', L', D', hj5⟩
          have HJ5 : Hid (Jn W1.heap.size W1 w5 p pb mb rb cf now' L' D') := hj5
          clear hj5 HLD HST
          go_wp2_with fail
          refine Calls.mono (same_any HJ5.out) ?_
          rintro e w6 ⟨rfl, hb6⟩
          have HV6 : Hid (InvR W1.heap.size W1 w6 p pb mb rb cf) := ⟨now', L', D', HJ5.out.on hb6⟩
          clear hb6 HJ5
          go_wp2
          go_roundw
          case rel => exact ⟨k + 1, HLT.out, rfl, HV6.out⟩
          case measure => show os.length - (k + 1) < os.length - k; have := HLT.out; omega
        · have q2 : decide ((k : Int) < 200) = false := decide_eq_false (by omega)
          have q1 : decide ((k : Int) < os.length) = true := by simpa using hlt
          have HF : Hid (Below W.heap.size W wr) := by
            obtain ⟨now, L, D, hj⟩ := HV.out
            rw [HN.out]
            exact HB1.out.trans (hj.c.bl.mono (by rw [HS1.out]; omega))
          go_wp2
          try go_returns
          exact HQ.out _ _ ⟨rfl, HF.out⟩
      · obtain rfl : k = os.length := by omega
        have HF : Hid (Below W.heap.size W wr) := by
          obtain ⟨now, L, D, hj⟩ := HV.out
          rw [HN.out]
          exact HB1.out.trans (hj.c.bl.mono (by rw [HS1.out]; omega))
        go_wp2
        try go_returns
        exact HQ.out _ _ ⟨rfl, HF.out⟩
section
open Go.ChangeShapes Go.WideShapes Go.ChangeAt
theorem list4o {α : Type} {l : List α} (h : l.length = 4) : ∃ x0 x1 x2 x3, l = [x0, x1, x2, x3] := by
  match l, h with
  | [x0, x1, x2, x3], _ => exact ⟨x0, x1, x2, x3, rfl⟩
theorem split19 {l : List Value} (h : l.length = 19) : l = (l.drop 0).take 1 ++ ((l.drop 1).take 1 ++ ((l.drop 2).take 16 ++ ((l.drop 18).take 1))) := by
  rw [show (l.drop 18).take 1 = l.drop 18 from List.take_of_length_le (by simp; omega)]
  rw [show (l.drop 2).take 16 ++ l.drop 18 = l.drop 2 by have := List.take_append_drop 16 (l.drop 2); rwa [List.drop_drop] at this]
  rw [show (l.drop 1).take 1 ++ l.drop 2 = l.drop 1 by have := List.take_append_drop 1 (l.drop 1); rwa [List.drop_drop] at this]
  rw [show (l.drop 0).take 1 ++ l.drop 1 = l.drop 0 by have := List.take_append_drop 1 (l.drop 0); rwa [List.drop_drop] at this]
  rw [List.drop_zero]
set_option maxRecDepth 100000 in
set_option maxHeartbeats 1000000 in
theorem cells_op {H : Type} {enc : TypeId × Value → H} {W : World} {fuel : Nat} {cs : List Value} {x : DataW H × List MemPlace} (h : DataW.trod enc Try.prog W 0 (fun _ => true) true fuel 37 cs = some x) :
    ∃ o : OpP, cs = o.c ∧ K16 o.d := by
  obtain ⟨xs, m, _, hx, hl, hxl, hi⟩ := DataW.trod_struct Try.underlying37 h
  have c19 : Try.prog.cellsOf 37 = 19 := by kernel_rfl
  rw [c19] at hl
  obtain ⟨x0, x1, x2, x3, rfl⟩ := list4o hxl
  have g0 : DataW.trod enc Try.prog W 0 (fun _ => true) true m 3 ((cs.drop 0).take 1) = some x0 := by
    have e : DataW.trod enc Try.prog W 0 (fun _ => true) true m 3 ((cs.drop 0).take (Try.prog.cellsOf 3)) = some x0 := hi 0 _ rfl
    rwa [show Try.prog.cellsOf 3 = 1 by kernel_rfl] at e
  have g1 : DataW.trod enc Try.prog W 0 (fun _ => true) true m 3 ((cs.drop 1).take 1) = some x1 := by
    have e : DataW.trod enc Try.prog W 0 (fun _ => true) true m 3 ((cs.drop 1).take (Try.prog.cellsOf 3)) = some x1 := hi 1 _ rfl
    rwa [show Try.prog.cellsOf 3 = 1 by kernel_rfl] at e
  have g2 : DataW.trod enc Try.prog W 0 (fun _ => true) true m 35 ((cs.drop 2).take 16) = some x2 := by
    have e : DataW.trod enc Try.prog W 0 (fun _ => true) true m 35 ((cs.drop 2).take (Try.prog.cellsOf 35)) = some x2 := hi 2 _ rfl
    rwa [show Try.prog.cellsOf 35 = 16 by kernel_rfl] at e
  have g3 : DataW.trod enc Try.prog W 0 (fun _ => true) true m 3 ((cs.drop 18).take 1) = some x3 := by
    have e : DataW.trod enc Try.prog W 0 (fun _ => true) true m 3 ((cs.drop 18).take (Try.prog.cellsOf 3)) = some x3 := hi 3 _ rfl
    rwa [show Try.prog.cellsOf 3 = 1 by kernel_rfl] at e
  obtain ⟨k0, e0, _, f0⟩ := DataW.trod_int Try.underlying3 g0
  obtain ⟨k1, e1, _, f1⟩ := DataW.trod_int Try.underlying3 g1
  obtain ⟨A, lA, e2, fA⟩ := cells_arr Try.underlying35 (by kernel_rfl) (by kernel_rfl) g2
  obtain ⟨k3, e3, _, f3⟩ := DataW.trod_int Try.underlying3 g3
  have hall := split19 hl
  rw [e0, e1, e2, e3] at hall
  exact ⟨⟨k0, k1, A, k3⟩, hall, ⟨fA, lA⟩⟩
theorem choose_listP {α : Type} {P : Nat → α → Prop} : ∀ (n : Nat), (∀ i, i < n → ∃ a, P i a) → ∃ l : List α, l.length = n ∧ ∀ i a, l[i]? = some a → P i a
  | 0, _ => ⟨[], rfl, fun i a h => by simp at h⟩
  | n + 1, h => by
    obtain ⟨l, hl, hp⟩ := choose_listP n (fun i hi => h i (by omega))
    obtain ⟨a, ha⟩ := h n (by omega)
    refine ⟨l ++ [a], by simp [hl], fun i b hb => ?_⟩
    by_cases c : i < n
    · rw [List.getElem?_append_left (by omega)] at hb
      exact hp i b hb
    · rw [List.getElem?_append_right (by omega)] at hb
      have : i - l.length = 0 := by
        have := (List.getElem?_eq_some_iff.1 hb).1
        simp at this
        omega
      rw [this] at hb
      simp at hb
      subst hb
      obtain rfl : i = n := by omega
      exact ha
set_option maxRecDepth 100000 in
theorem cells_ops {H : Type} {enc : TypeId × Value → H} {W : World} {fuel : Nat} {cs : List Value} {x : DataW H × List MemPlace} (h : DataW.trod enc Try.prog W 0 (fun _ => true) true fuel 24 cs = some x) : ∃ (v : Value) (rs : List OpP), cs = [v] ∧ OpsAt W v rs ∧ ∀ r ∈ rs, K16 r.d := by
  rcases Go.Deep.open_slice Try.underlying24 h with ⟨rfl, _⟩ | ⟨a, len, cap, m, n, D, Pl, rfl, _, hl, hm, hmm, _, hx⟩
  · exact ⟨_, [], rfl, ⟨none, 0, rfl, Nat.le_refl _, by decide, fun hne => absurd rfl hne⟩, fun r hr => by cases hr⟩
  · have hmc : m = cap := by rw [hmm]; rfl
    have c19 : Try.prog.cellsOf 37 = 19 := by kernel_rfl
    rw [c19] at hx
    have each : ∀ i, i < len → ∃ r : OpP, K16 r.d ∧ ∀ (j : Nat) u, r.c[j]? = some u → W.cell? ((a.add (i * 19)).add j) = some u := fun i hi => by
      obtain ⟨cs', h1, h2⟩ := hx i (by omega)
      obtain ⟨r, hr, hin⟩ := cells_op h2
      obtain ⟨_, hlen, hcell⟩ := World.cells?_some h1
      refine ⟨r, hin, fun j u hj => ?_⟩
      have hj19 := (List.getElem?_eq_some_iff.1 hj).1
      rw [OpP.len hin] at hj19
      rw [hcell j hj19, hr]
      exact hj
    obtain ⟨rs, hrl, hp⟩ := choose_listP len each
    refine ⟨_, rs, rfl, ⟨some a, cap, by rw [hrl], by omega, hm, fun hne => ?_⟩, fun r hr => ?_⟩
    · obtain ⟨r0, h0⟩ : ∃ r0, rs[0]? = some r0 := ⟨_, List.getElem?_eq_getElem (List.length_pos_iff.2 hne)⟩
      have hc0 := (hp 0 r0 h0).2 0 _ (List.getElem?_eq_getElem (by rw [OpP.len (hp 0 r0 h0).1]; omega))
      obtain ⟨g, off, s⟩ := a
      have hs : s = none := by simpa [Addr.add] using World.cell?_spot hc0
      subst hs
      refine ⟨g, off, rfl, World.block_lt_of_cell? W _ hc0, fun j r hj i u hi => ?_⟩
      have := (hp j r hj).2 i u hi
      rw [Go.WideShapes.add_plain, Go.WideShapes.add_plain] at this
      exact this
    · obtain ⟨j, hj⟩ := List.getElem?_of_mem hr
      exact (hp j r hj).1
set_option maxRecDepth 100000 in
theorem open_ops {H : Type} {enc : TypeId × Value → H} {W : World} {base : Nat} {v : Value} {d : DataW H} {p : List MemPlace} (o : Value.okWide Try.prog W .any base 24 v) (h : DataW.Trod enc Try.prog W 0 (fun _ => true) true 24 v d p) : ∃ os, OpsAt W v os ∧ ∀ o ∈ os, K16 o.d := by
  obtain ⟨a, len, cap, rfl⟩ := okWide_slice Try.underlying24 o
  obtain ⟨fuel, hf⟩ := h
  obtain ⟨v, os, hv, h1, h2⟩ := cells_ops hf
  have : v = .slice a len cap := by
    have e : (Value.slice a len cap).cells.toList = [Value.slice a len cap] := rfl
    rw [e] at hv
    injection hv with hv
    exact hv.symm
  subst this
  exact ⟨os, h1, h2⟩
set_option maxRecDepth 100000 in
theorem pathmtuRuns_open {H : Type} {enc : TypeId × Value → H} {W : World} {base : Nat} (v0 v1 : Value) {d0 d1 : DataW H} {p0 p1 : List MemPlace}
    (o0 : Value.okWide Try.prog W .any base 23 v0) (h0 : DataW.Trod enc Try.prog W 0 (fun _ => true) true 23 v0 d0 p0) (z0 : ∀ k ∈ d0.weights Try.prog 23, k ≤ reachBytes)
    (o1 : Value.okWide Try.prog W .any base 24 v1) (h1 : DataW.Trod enc Try.prog W 0 (fun _ => true) true 24 v1 d1 p1) (z1 : ∀ k ∈ d1.weights Try.prog 24, k ≤ reachBytes) :
    Calls Try.prog 3 #[v0, v1] W fun e w' => e = .returned (.bool true) ∧ Below W.heap.size W w' := by
  obtain ⟨cf, rfl, _⟩ := open_conf h0
  obtain ⟨os, ho, hi⟩ := open_ops o1 h1
  exact pathmtuRuns_walk ho hi
end
end Go.Proofs.Ytgndiblonhgihaa
