/-
  The document's Write of an IPv4 datagram.
-/
import Derived.Test.YtmoogfdmlbalbaaIp5
import Derived.Deep.RegionLaw
namespace Go.Proofs.Ytmoogfdmlbalbaa
open Go Go.RowKit
set_option linter.unusedVariables false
set_option linter.unusedSimpArgs false

theorem step_appendR {P : Program} {ops : Array Oper} {o : Oper} {a : Act} {w : World} {K : Act → World → Prop} {Q : Exit → Act → World → Prop} {E : Prop} {R : Value → World → Prop} (hg : o.guard = none) (s x : Operand) (t u : TypeId)
    (hop : o.op = Op.call { callee := Callee.builtin Builtin.append, args := #[s, x], argTypes := #[t, u] }) {vs vx : Value} (hs : a.eval s = vs) (hx : a.eval x = vx)
    (hex : ∃ v w2, (Builtin.append_ #[t, u] o.type #[vs, vx]).run P w = .ok v w2 ∧ R v w2) (hK : ∀ v w2, R v w2 → K (a.put o.dst v) w2) :
    if Region.wanted o (yielded ops a.tmps) = true then Oper.wp P o a w K Q else E := by
  have hw : Region.wanted o (yielded ops a.tmps) = true := by simp [Region.wanted, hg]
  rw [if_pos hw]
  obtain ⟨v, w2, hrun, hr⟩ := hex
  unfold Oper.wp
  simp [execOp, hop, resolve, invoke, builtin, hs, hx, hrun, Result.andThen]
  exact hK _ _ hr

theorem step_callR {P : Program} {ops : Array Oper} {o : Oper} {a : Act} {w : World} {K : Act → World → Prop} {Q : Exit → Act → World → Prop} {E : Prop} {R : Value → World → Prop} (hg : o.guard = none) (f : FuncId) (vs : Array Value)
    (hrun : (execOp a.eval o).run P w = .ok (.enter f vs) w) (hc : Calls P f vs w fun e w' => ∃ v, e = .returned v ∧ R v w') (hK : ∀ v w2, R v w2 → K (a.put o.dst v) w2) :
    if Region.wanted o (yielded ops a.tmps) = true then Oper.wp P o a w K Q else E := by
  have hw : Region.wanted o (yielded ops a.tmps) = true := by simp [Region.wanted, hg]
  rw [if_pos hw]
  unfold Oper.wp
  rw [hrun]
  refine hc.mono ?_
  rintro e w' ⟨v, rfl, hr⟩
  exact hK v w' hr
theorem wrapi64 (x : Int) (h : -9223372036854775808 ≤ x ∧ x ≤ 9223372036854775807) : IntKind.i64.wrap x = x := by
  have e : IntKind.i64.wrap x = (x + 9223372036854775808) % 18446744073709551616 - 9223372036854775808 := by
    simp [IntKind.wrap, IntKind.bits, IntKind.signed]
    split <;> omega
  rw [e]
  omega
/-- Bytes behind an own row, and what it leaves. -/
theorem own_tail {w1 w2 : World} {base n : Nat} {v u : Value} {zs ys : List Int} (hown : w2.ownsRow base 5 1 v n (bytesV zs)) (hn : 0 < n) (hz : zs.length = n) (hfz : Fit zs) (hb : BytesAt w2.heap.size w2 u ys) (hl : n + ys.length ≤ 1000000) (hlow : w1.heap.size ≤ base) (hB : Below w1.heap.size w1 w2) (ty : TypeId) :
    ∃ v' w3, (Builtin.append_ #[25, 25] ty #[v, u]).run Try.prog w2 = .ok v' w3 ∧ (BytesAt w3.heap.size w3 v' (zs ++ ys) ∧ Below w1.heap.size w1 w3) := by
  obtain ⟨a0, c0, _, _, hf⟩ := own_form hown
  have hbase : base ≤ w2.heap.size := by
    rcases hf with hf | ⟨g, _, h1, h2, _⟩
    · omega
    · omega
  obtain ⟨a, cap, rfl, _⟩ := hb.val
  obtain ⟨v', w3, hrun, hown', hgr⟩ := own_bytes_more (w0 := w2) hown hbase hb hl ty
  have e : bytesV zs ++ bytesV ys = (zs ++ ys).map (fun z => Value.int .u8 z) := by simp [bytesV]
  rw [e] at hown'
  refine ⟨v', w3, hrun, own_bytes hown' (fun z hz' => ?_) (by rw [List.length_append]; omega), hB.trans (((Below.refl _ w2).grown hgr hbase (fun j hj => (hown.lt j hj).1)).mono hlow)⟩
  rcases List.mem_append.1 hz' with h | h
  · exact hfz z h
  · exact hb.fit z h

set_option maxHeartbeats 1000000 in
set_option maxRecDepth 100000 in
theorem ROf_calls (a : Option Addr) (n cap : Nat) (ps : List (List Int)) (w : World) (hp : PartsAt w.heap.size w (.slice a n cap) ps) (hl : ps.flatten.length ≤ 100000) :
    Calls Try.prog 34 #[.slice a n cap] w fun e w' => e = .returned (.int .u16 (65535 - sumW 0 (wordsL ps.flatten))) ∧ Below w.heap.size w w' := by
  have hf := fold_ref a n cap ps w hp hl
  have hr := sumW_range (wordsL ps.flatten) 0 (by decide) (wordsL_words hp.fit)
  have HF : Hid _ := hf
  clear hf hp
  generalize sumW 0 (wordsL ps.flatten) = s at *
  go_enter Try.func34, Try.ntmps34
  go_wp2_with fail
  refine Calls.mono HF.out ?_
  rintro e w1 ⟨rfl, hb⟩
  have h1 : (65535 - s) % 65536 = 65535 - s := by omega
  go_wp2
  go_ret
  exact ⟨rfl, hb⟩

def rwrL (tos id : Int) (df mf : Bool) (off ttl proto s0 s1 s2 s3 d0 d1 d2 d3 : Int) (opts body : List Int) : List Int :=
  rhd (20 + opts.length) (20 + opts.length + body.length) tos id (cutW off df mf) ttl proto s0 s1 s2 s3 d0 d1 d2 d3 (65535 - sumW 0 (wordsL (rhd (20 + opts.length) (20 + opts.length + body.length) tos id (cutW off df mf) ttl proto s0 s1 s2 s3 d0 d1 d2 d3 0 opts))) opts ++ body

theorem rhd_length (size all : Nat) (tos id cw ttl proto s0 s1 s2 s3 d0 d1 d2 d3 sm : Int) (opts : List Int) : (rhd size all tos id cw ttl proto s0 s1 s2 s3 d0 d1 d2 d3 sm opts).length = 20 + opts.length := by simp [rhd]; omega
theorem rhd_fit {size all : Nat} {tos id cw ttl proto s0 s1 s2 s3 d0 d1 d2 d3 sm : Int} {opts : List Int} (hs : size ≤ 60) (ha : all ≤ 65535) (ht : 0 ≤ tos ∧ tos < 256) (hi : 0 ≤ id ∧ id ≤ 65535) (hc : 0 ≤ cw ∧ cw ≤ 65535) (hl : 0 ≤ ttl ∧ ttl < 256) (hp : 0 ≤ proto ∧ proto < 256) (fs : Fit [s0, s1, s2, s3]) (fd : Fit [d0, d1, d2, d3]) (fo : Fit opts) (hm : 0 ≤ sm ∧ sm ≤ 65535) :
    Fit (rhd size all tos id cw ttl proto s0 s1 s2 s3 d0 d1 d2 d3 sm opts) := by
  have f0 := fs s0 (by simp)
  have f1 := fs s1 (by simp)
  have f2 := fs s2 (by simp)
  have f3 := fs s3 (by simp)
  have g0 := fd d0 (by simp)
  have g1 := fd d1 (by simp)
  have g2 := fd d2 (by simp)
  have g3 := fd d3 (by simp)
  intro z hz
  unfold rhd at hz
  rcases List.mem_append.1 hz with hz | hz
  · simp only [List.mem_cons, List.not_mem_nil, or_false] at hz
    omega
  · exact fo z hz

set_option maxHeartbeats 4000000 in
set_option maxRecDepth 100000 in
theorem RWrite_ok (c : List Value) (tos id : Int) (df mf : Bool) (off ttl proto s0 s1 s2 s3 d0 d1 d2 d3 : Int) (opts body : List Int) (w : World)
    (h : Dgram w c tos id df mf off ttl proto s0 s1 s2 s3 d0 d1 d2 d3 opts body) (hk : chk off opts.length body.length = 0) :
    Calls Try.prog 12 #[.agg c.toArray] w fun e w' => ∃ v, e = .returned (.tuple #[v, .int .i64 0]) ∧ BytesAt w'.heap.size w' v (rwrL tos id df mf off ttl proto s0 s1 s2 s3 d0 d1 d2 d3 opts body) ∧ Below w.heap.size w w' := by
  have hL := h.lens
  obtain ⟨hno, hnb, ho⟩ := chk_zero hk
  have hb0 := blk_new w (.cells c.toArray 27)
  have hB0 := (Below.refl w.heap.size w).alloc (Nat.le_refl _) (.cells c.toArray 27)
  have hch := fun w => RCheck_calls c off opts.length body.length w hL
  rw [hk] at hch
  have hcw := cutW_range off df mf ho
  have hf0 := fun sm (hm : 0 ≤ sm ∧ sm ≤ 65535) => rhd_fit (size := 20 + opts.length) (all := 20 + opts.length + body.length) (sm := sm) (by omega) hnb h.ft h.hid hcw h.fl h.fp h.fs h.fd h.cells.choose_spec.choose_spec.2.1.fit hm
  have hhd := fun (w' : World) (hb : Below w.heap.size w w') (sm : Int) (hm : 0 ≤ sm ∧ sm ≤ 65535) => Head_calls c tos id df mf off ttl proto s0 s1 s2 s3 d0 d1 d2 d3 sm opts body w' (h.on hb) hk hm
  have hrg := sumW_range (wordsL (rhd (20 + opts.length) (20 + opts.length + body.length) tos id (cutW off df mf) ttl proto s0 s1 s2 s3 d0 d1 d2 d3 0 opts)) 0 (by decide) (wordsL_words (hf0 0 (by decide)))
  have hck : 0 ≤ 65535 - sumW 0 (wordsL (rhd (20 + opts.length) (20 + opts.length + body.length) tos id (cutW off df mf) ttl proto s0 s1 s2 s3 d0 d1 d2 d3 0 opts)) ∧ 65535 - sumW 0 (wordsL (rhd (20 + opts.length) (20 + opts.length + body.length) tos id (cutW off df mf) ttl proto s0 s1 s2 s3 d0 d1 d2 d3 0 opts)) ≤ 65535 := by omega
  clear hrg
  unfold rwrL
  generalize hcke : 65535 - sumW 0 (wordsL (rhd (20 + opts.length) (20 + opts.length + body.length) tos id (cutW off df mf) ttl proto s0 s1 s2 s3 d0 d1 d2 d3 0 opts)) = ck at *
  have HCK : Hid _ := hcke
  clear hcke
  obtain ⟨so, sb, hc, hso, hsb⟩ := h.cells
  have ce : c = [.int .u8 tos, .int .u16 id, .bool df, .bool mf, .int .i64 off, .int .u8 ttl, .int .u8 proto, .int .u8 s0, .int .u8 s1, .int .u8 s2, .int .u8 s3, .int .u8 d0, .int .u8 d1, .int .u8 d2, .int .u8 d3, so, sb] := hc.eq
  have HCE : Hid _ := ce
  clear ce
  have HLD : Hid _ := agg_load (t := 27) Try.isAgg27 Try.sizeOf27 hL.len (CellsAt.of_blk hb0)
  have HCH : Hid _ := hch
  have HB0 : Hid _ := hB0
  have HBK : Hid _ := hb0
  have HLEN : Hid _ := hL.len
  have HF0 : Hid _ := hf0
  have HHD : Hid _ := hhd
  have HSB : Hid _ := hsb
  clear hch hb0 hB0 hL hf0 hhd hsb hso hc h hk
  go_enter Try.func12, Try.ntmps12
  go_wp2_with ((with_reducible show wpList _ _ _ _ _ _); refine arm_load rfl (.tmp 1) 27 rfl rfl HLD.out ?_)
  refine Calls.mono (HCH.out _) ?_
  rintro e1 w1 ⟨rfl, hb1⟩
  have hbk1 := blk_on HBK.out hb1
  have HL1 : Hid _ := agg_load (t := 27) Try.isAgg27 Try.sizeOf27 HLEN.out (CellsAt.of_blk hbk1)
  have hbl1 := HB0.out.trans (hb1.mono HB0.out.size)
  clear HCH HLD hb1 HB0 HBK
  go_wp2_with ((with_reducible show wpList _ _ _ _ _ _); refine arm_load rfl (.tmp 1) 27 rfl rfl HL1.out ?_)
  refine Calls.mono (HHD.out w1 hbl1 0 (by decide)) ?_
  rintro e2 w2 ⟨v2, rfl, own2, hb2⟩
  obtain ⟨a2, k2, rfl, _⟩ := own_form own2
  have hbl2 := hbl1.trans (hb2.mono hbl1.size)
  have hbk2 := blk_on hbk1 hb2
  have hby2 := own_bytes (zs := rhd (20 + opts.length) (20 + opts.length + body.length) tos id (cutW off df mf) ttl proto s0 s1 s2 s3 d0 d1 d2 d3 0 opts) own2 (HF0.out 0 (by decide)) (by rw [rhd_length]; omega)
  have hpt := parts_one w2 (.slice a2 (20 + opts.length) k2) 25 _ hby2
  have hof := ROf_calls _ _ _ _ _ hpt (by simp [rhd_length]; omega)
  rw [show ([rhd (20 + opts.length) (20 + opts.length + body.length) tos id (cutW off df mf) ttl proto s0 s1 s2 s3 d0 d1 d2 d3 0 opts] : List (List Int)).flatten = rhd (20 + opts.length) (20 + opts.length + body.length) tos id (cutW off df mf) ttl proto s0 s1 s2 s3 d0 d1 d2 d3 0 opts by simp] at hof
  have hbk3 := blk_alloc hbk2 (.cells #[.slice a2 (20 + opts.length) k2] 25)
  have hbl3 := hbl2.alloc hbl2.size (.cells #[.slice a2 (20 + opts.length) k2] 25)
  rw [HCK.out] at hof
  have HOF : Hid _ := hof
  clear hof hpt hby2 own2 hb2 hbl1 hbk1 HL1
  go_wp2_with fail
  refine Calls.mono HOF.out ?_
  rintro e3 w4 ⟨rfl, hb4⟩
  have hbk4 := blk_on hbk3 hb4
  have hbl4 := hbl3.trans (hb4.mono hbl3.size)
  have HL4 : Hid _ := agg_load (t := 27) Try.isAgg27 Try.sizeOf27 HLEN.out (CellsAt.of_blk hbk4)
  clear HOF hb4 hbk3 hbl3 hbk2 hbl2
  go_wp2_with fail
  have hce := HCE.out
  have q0 : w4.cell? ⟨w.heap.size, 0, none⟩ = some (.int .u8 tos) := by simp [World.cell?, hbk4, HCE.out]
  have q1 : w4.cell? ⟨w.heap.size, 1, none⟩ = some (.int .u16 id) := by simp [World.cell?, hbk4, HCE.out]
  have q2 : w4.cell? ⟨w.heap.size, 2, none⟩ = some (.bool df) := by simp [World.cell?, hbk4, HCE.out]
  have q3 : w4.cell? ⟨w.heap.size, 3, none⟩ = some (.bool mf) := by simp [World.cell?, hbk4, HCE.out]
  have q4 : w4.cell? ⟨w.heap.size, 4, none⟩ = some (.int .i64 off) := by simp [World.cell?, hbk4, HCE.out]
  have q5 : w4.cell? ⟨w.heap.size, 5, none⟩ = some (.int .u8 ttl) := by simp [World.cell?, hbk4, HCE.out]
  have q6 : w4.cell? ⟨w.heap.size, 6, none⟩ = some (.int .u8 proto) := by simp [World.cell?, hbk4, HCE.out]
  have q7 : w4.cell? ⟨w.heap.size, 7, none⟩ = some (.int .u8 s0) := by simp [World.cell?, hbk4, HCE.out]
  have q8 : w4.cell? ⟨w.heap.size, 8, none⟩ = some (.int .u8 s1) := by simp [World.cell?, hbk4, HCE.out]
  have q9 : w4.cell? ⟨w.heap.size, 9, none⟩ = some (.int .u8 s2) := by simp [World.cell?, hbk4, HCE.out]
  have q10 : w4.cell? ⟨w.heap.size, 10, none⟩ = some (.int .u8 s3) := by simp [World.cell?, hbk4, HCE.out]
  have q11 : w4.cell? ⟨w.heap.size, 11, none⟩ = some (.int .u8 d0) := by simp [World.cell?, hbk4, HCE.out]
  have q12 : w4.cell? ⟨w.heap.size, 12, none⟩ = some (.int .u8 d1) := by simp [World.cell?, hbk4, HCE.out]
  have q13 : w4.cell? ⟨w.heap.size, 13, none⟩ = some (.int .u8 d2) := by simp [World.cell?, hbk4, HCE.out]
  have q14 : w4.cell? ⟨w.heap.size, 14, none⟩ = some (.int .u8 d3) := by simp [World.cell?, hbk4, HCE.out]
  have q15 : w4.cell? ⟨w.heap.size, 15, none⟩ = some (so) := by simp [World.cell?, hbk4, HCE.out]
  have q16 : w4.cell? ⟨w.heap.size, 16, none⟩ = some (sb) := by simp [World.cell?, hbk4, HCE.out]
  rw [hce] at HHD
  have hlt4 : w.heap.size < w4.heap.size := (Array.getElem?_eq_some_iff.1 hbk4).1
  have hfk := HF0.out ck hck
  have hwc := wrapi64 ck (by omega)
  have HFK : Hid _ := hfk
  clear hce HL4 hbk4 HF0 hfk
  go_region_law (first
    | (refine step_appendR rfl _ _ _ _ rfl rfl rfl (own_tail own5 (by omega) (rhd_length _ _ _ _ _ _ _ _ _ _ _ _ _ _ _ _ _) HFK.out (HSB.out.later hbl5) (by omega) (Nat.le_trans hbl4.size (Nat.le_succ _)) hbl5 _) ?_; rintro v6 w6 ⟨hby6, hbl6⟩)
    | (refine step_callR rfl 35 _ (by kernel_rfl) (HHD.out _ hbl4.drew ck hck) ?_; rintro v5 w5 ⟨own5, hb5⟩; have hbl5 := hbl4.drew.trans (hb5.mono hbl4.size); have q16b : w5.cell? ⟨w.heap.size, 16, none⟩ = some sb := (hb5.cell (p := ⟨w.heap.size, 16, none⟩) hlt4).trans q16))
  all_goals
    go_wp2
    go_ret2
    exact ⟨_, rfl, hby6, hbl6⟩

end Go.Proofs.Ytmoogfdmlbalbaa
