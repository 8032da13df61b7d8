/-
  The walk of the statement Ipv4Writes.
-/
import Derived.Test.YtmoogfdmlbalbaaIp8
namespace Go.Proofs.Ytmoogfdmlbalbaa
open Go Go.RowKit
set_option linter.unusedVariables false
set_option linter.unusedSimpArgs false

theorem BytesAt.none (w : World) : BytesAt w.heap.size w (.slice none 0 0) [] := ⟨fun z hz => by simp at hz, by simp, _, _, rfl, .inl rfl⟩
theorem wr_fit {w : World} {c : List Value} {tos id : Int} {df mf : Bool} {off ttl proto s0 s1 s2 s3 d0 d1 d2 d3 : Int} {opts body : List Int} (h : Dgram w c tos id df mf off ttl proto s0 s1 s2 s3 d0 d1 d2 d3 opts body) (hk : chk off opts.length body.length = 0) :
    Fit (wrL tos id df mf off ttl proto s0 s1 s2 s3 d0 d1 d2 d3 opts body) ∧ (wrL tos id df mf off ttl proto s0 s1 s2 s3 d0 d1 d2 d3 opts body).length = 20 + opts.length + body.length := by
  obtain ⟨hno, hnb, ho⟩ := chk_zero hk
  obtain ⟨so, sb, hc, hso, hsb⟩ := h.cells
  have hF := hdF_fit (20 + opts.length) (20 + opts.length + body.length) tos id (cutW off df mf) ttl proto [s0, s1, s2, s3] [d0, d1, d2, d3] opts (by omega) hnb h.ft h.hid (cutW_range off df mf ho) h.fl h.fp h.fs h.fd hso.fit
  have hl := hdF_length (20 + opts.length) (20 + opts.length + body.length) tos id (cutW off df mf) ttl proto [s0, s1, s2, s3] [d0, d1, d2, d3] opts rfl rfl hno
  unfold wrL
  refine ⟨fun z hz => ?_, by rw [List.length_append, List.length_take, hl]; omega⟩
  rcases List.mem_append.1 hz with hz | hz
  · exact hF z (List.mem_of_mem_take hz)
  · exact hsb.fit z hz

def wrB (tos id : Int) (df mf : Bool) (off ttl proto s0 s1 s2 s3 d0 d1 d2 d3 : Int) (opts body : List Int) : List Int :=
  if chk off opts.length body.length = 0 then wrL tos id df mf off ttl proto s0 s1 s2 s3 d0 d1 d2 d3 opts body else []

theorem Write_any (c : List Value) (tos id : Int) (df mf : Bool) (off ttl proto s0 s1 s2 s3 d0 d1 d2 d3 : Int) (opts body : List Int) (w : World) (h : Dgram w c tos id df mf off ttl proto s0 s1 s2 s3 d0 d1 d2 d3 opts body) :
    Calls Try.prog 11 #[.agg c.toArray] w fun e w' => ∃ v, e = .returned (.tuple #[v, .int .i64 (chk off opts.length body.length)]) ∧ BytesAt w'.heap.size w' v (wrB tos id df mf off ttl proto s0 s1 s2 s3 d0 d1 d2 d3 opts body) ∧ Below w.heap.size w w' := by
  by_cases hk : chk off opts.length body.length = 0
  · refine (Write_ok c tos id df mf off ttl proto s0 s1 s2 s3 d0 d1 d2 d3 opts body w h hk).mono ?_
    rintro e w' ⟨g, rfl, hg, own, hb⟩
    obtain ⟨hf, hl⟩ := wr_fit h hk
    obtain ⟨_, hnb, _⟩ := chk_zero hk
    refine ⟨_, by rw [hk], ?_, hb⟩
    unfold wrB
    rw [if_pos hk]
    have := own.bytes hf (by omega) 0 (20 + opts.length + body.length) (20 + opts.length + body.length) (by omega)
    rwa [List.drop_zero, List.take_of_length_le (by omega)] at this
  · refine (Write_no c off opts.length body.length w h.lens hk).mono ?_
    rintro e w' ⟨rfl, hb⟩
    refine ⟨_, rfl, ?_, hb⟩
    unfold wrB
    rw [if_neg hk]
    exact BytesAt.none _
theorem RWrite_any (c : List Value) (tos id : Int) (df mf : Bool) (off ttl proto s0 s1 s2 s3 d0 d1 d2 d3 : Int) (opts body : List Int) (w : World) (h : Dgram w c tos id df mf off ttl proto s0 s1 s2 s3 d0 d1 d2 d3 opts body) :
    Calls Try.prog 12 #[.agg c.toArray] w fun e w' => ∃ v, e = .returned (.tuple #[v, .int .i64 (chk off opts.length body.length)]) ∧ BytesAt w'.heap.size w' v (wrB tos id df mf off ttl proto s0 s1 s2 s3 d0 d1 d2 d3 opts body) ∧ Below w.heap.size w w' := by
  by_cases hk : chk off opts.length body.length = 0
  · refine (RWrite_ok c tos id df mf off ttl proto s0 s1 s2 s3 d0 d1 d2 d3 opts body w h hk).mono ?_
    rintro e w' ⟨v, rfl, hby, hb⟩
    refine ⟨_, by rw [hk], ?_, hb⟩
    unfold wrB
    rw [if_pos hk, wr_same]
    exact hby
  · refine (RWrite_no c off opts.length body.length w h.lens hk).mono ?_
    rintro e w' ⟨rfl, hb⟩
    refine ⟨_, rfl, ?_, hb⟩
    unfold wrB
    rw [if_neg hk]
    exact BytesAt.none _

/-- A slice of bytes as text, in every world above. -/
theorem Hi.text {w : World} {v : Value} {zs : List Int} (h : BytesAt w.heap.size w v zs) : ∀ x : Hi w, (convert 25 9 v).run Try.prog x.W = .ok (.string (strOfNums zs)) x.W := fun x => (h.later x.below).text

set_option maxHeartbeats 4000000 in
set_option maxRecDepth 100000 in
theorem ipv4Writes_walk (c : List Value) (tos id : Int) (df mf : Bool) (off ttl proto s0 s1 s2 s3 d0 d1 d2 d3 : Int) (opts body : List Int) (w : World) (h : Dgram w c tos id df mf off ttl proto s0 s1 s2 s3 d0 d1 d2 d3 opts body) :
    Calls Try.prog 3 #[.agg c.toArray] w fun e w' => e = .returned (.bool true) ∧ Below w.heap.size w w' := by
  have hL := h.lens
  have hb0 := blk_new w (.cells c.toArray 27)
  have hB0 := (Below.refl w.heap.size w).alloc (Nat.le_refl _) (.cells c.toArray 27)
  have hld : ∀ x : Hi (w.alloc (.cells c.toArray 27)), (Instr.loadAt 27 (.pointer (some ⟨w.heap.size, 0, none⟩))).run Try.prog x.W = .ok (.agg c.toArray) x.W := fun x => agg_load Try.isAgg27 Try.sizeOf27 hL.len (CellsAt.of_blk (Hi.blk hb0 x))
  have hw1 := fun (x : Hi (w.alloc (.cells c.toArray 27))) => Write_any c tos id df mf off ttl proto s0 s1 s2 s3 d0 d1 d2 d3 opts body x.W (h.on (hB0.trans (x.below.mono hB0.size)))
  have hw2 := fun (x : Hi (w.alloc (.cells c.toArray 27))) => RWrite_any c tos id df mf off ttl proto s0 s1 s2 s3 d0 d1 d2 d3 opts body x.W (h.on (hB0.trans (x.below.mono hB0.size)))
  have hs1 := fun w => Size_calls c off opts.length body.length w hL
  have hs2 := fun w => RSize_calls c off opts.length body.length w hL
  have hc1 := fun w => Check_calls c off opts.length body.length w hL
  have hc2 := fun w => RCheck_calls c off opts.length body.length w hL
  generalize (if chk off opts.length body.length = 0 then 20 + (opts.length : Int) + body.length else 0) = nn at *
  generalize (if chk off opts.length body.length = 0 then 20 + (opts.length : Int) else 0) = hh at *
  generalize chk off opts.length body.length = kk at *
  generalize wrB tos id df mf off ttl proto s0 s1 s2 s3 d0 d1 d2 d3 opts body = bs at *
  have HLD0 : Hid _ := hld (Hi.refl _)
  have HLD : Hid _ := hld
  have HW1 : Hid _ := hw1 (Hi.refl _)
  have HW2 : Hid _ := hw2
  have HS1 : Hid _ := hs1
  have HS2 : Hid _ := hs2
  have HC1 : Hid _ := hc1
  have HC2 : Hid _ := hc2
  have HB0 : Hid _ := hB0
  clear hld hw1 hw2 hs1 hs2 hc1 hc2 hb0 hL h hB0
  go_enter Try.func3, Try.ntmps3
  go_wp2_with ((with_reducible show wpList _ _ _ _ _ _); refine arm_load rfl (.tmp 1) 27 rfl rfl HLD0.out ?_)
  refine Calls.mono HW1.out ?_
  rintro e1 w1 ⟨v1, rfl, hby1, hb1⟩
  obtain ⟨x1, rfl⟩ : ∃ x : Hi (w.alloc (.cells c.toArray 27)), w1 = x.W := ⟨⟨w1, hb1⟩, rfl⟩
  clear hb1 HW1 HLD0
  go_wp2_with ((with_reducible show wpList _ _ _ _ _ _); refine arm_load rfl (.tmp 1) 27 rfl rfl (HLD.out _) ?_)
  refine Calls.mono (HW2.out x1) ?_
  rintro e2 w2 ⟨v2, rfl, hby2, hb2⟩
  have hb2' := x1.below.trans (hb2.mono x1.below.size)
  have hby1' := hby1.later hb2
  have hl2 : ∀ x : Hi w2, (Instr.loadAt 27 (.pointer (some ⟨w.heap.size, 0, none⟩))).run Try.prog x.W = .ok (.agg c.toArray) x.W := fun x => HLD.out ⟨x.W, hb2'.trans (x.below.mono hb2'.size)⟩
  have t1 := Hi.text hby1'
  have t2 := Hi.text hby2
  have hbl2 := HB0.out.trans (hb2'.mono HB0.out.size)
  have HL20 : Hid _ := hl2 (Hi.refl _)
  have HL2 : Hid _ := hl2
  generalize strOfNums bs = SS at *
  clear hby1 hby1' hby2 hb2 HW2 HLD hl2 hb2'
  go_wp2_with ((with_reducible show wpList _ _ _ _ _ _); refine arm_load rfl (.tmp 1) 27 rfl rfl HL20.out ?_)
  refine Calls.mono (HS1.out _) ?_
  rintro e3 w3 ⟨rfl, hb3⟩
  obtain ⟨x3, rfl⟩ : ∃ x : Hi w2, w3 = x.W := ⟨⟨w3, hb3⟩, rfl⟩
  clear hb3 HL20 HS1
  go_wp2_with ((with_reducible show wpList _ _ _ _ _ _); refine arm_load rfl (.tmp 1) 27 rfl rfl (HL2.out _) ?_)
  refine Calls.mono (Hi.calls (HS2.out _)) ?_
  rintro e4 w4 ⟨rfl, x4, rfl⟩
  clear HS2
  go_wp2_with fail
  refine wp_region_up (by kernel_rfl) (by kernel_rfl) ?_
  repeat (first
    | go_big_quiet_skip
    | (go_big_quiet_want; refine hi_load (.tmp 1) 27 rfl rfl HL2.out ?_; simp only [Act.put, List.setIfInBounds_toArray, List.set_cons_zero, List.set_cons_succ]; go_big_quiet_on)
    | (go_big_quiet_want; go_big_quiet_op; first | go_big_quiet_on | go_big_quiet_call (first | (go_at_call 15; exact Hi.calls (HC1.out _)) | (go_at_call 16; exact Hi.calls (HC2.out _)) | (go_at_call 17; exact Hi.calls (awake_calls _)))))
  refine wpQuiet_nil ?_
  intro _ hw
  obtain ⟨y, rfl⟩ := hw
  go_wp2
  go_ret
  exact ⟨rfl, hbl2.trans (y.below.mono hbl2.size)⟩

end Go.Proofs.Ytmoogfdmlbalbaa
