/-
  Write of package ipv4.
-/
import Derived.Test.YtmoogfdmlbalbaaIp3
import Derived.OwnWalk
namespace Go.Proofs.Ytmoogfdmlbalbaa
open Go Go.RowKit
set_option linter.unusedVariables false
set_option linter.unusedSimpArgs false

theorem made_own {w : World} {base n g : Nat} {cap : Nat} (h : w.ownsRow base 5 1 (.slice (some ⟨g, 0, none⟩) n cap) n (madeCells (Value.int .u8 0).cells (n * 1)).toList) : OwnG w g (List.replicate n 0) := by
  rcases h.2 with ⟨e, h0⟩ | ⟨g', cap', cur, e, hb, hg, _⟩
  · cases e
  · cases e
    refine ⟨⟨cur, _, hg⟩, fun j hj => ?_⟩
    simp only [List.length_replicate] at hj
    have := h.cells (g := g) rfl j (.int .u8 0) (by simp only [madeCells, Nat.mul_one, Array.toList_map, Array.toList_range, List.getElem?_map, List.getElem?_range hj, Option.map_some, Option.some.injEq]; show (#[Value.int .u8 0])[j % 1]! = _; rw [Nat.mod_one]; rfl)
    rw [Go.WideShapes.add_plain] at this
    rw [List.getElem?_replicate]
    simpa [hj] using this

theorem hd1_length (size : Nat) (tos : Int) : (hd1 size tos).length = 60 := by simp [hd1]
theorem hd1_fit (size : Nat) (tos : Int) (h : size ≤ 60) (ht : 0 ≤ tos ∧ tos < 256) : Fit (hd1 size tos) := by
  intro z hz
  simp [hd1] at hz
  rcases hz with rfl | rfl | hz <;> omega
theorem hd9_length (size all : Nat) (tos id cw ttl proto : Int) (src dst opts : List Int) (hs : src.length = 4) (hd : dst.length = 4) (ho : opts.length ≤ 40) : (hd9 size all tos id cw ttl proto src dst opts).length = 60 := by
  have h6 : (hd6 size all tos id cw ttl proto).length = 60 := by simp [hd6, hd4, putL_length, hd1_length]
  have h7 : (laid (hd6 size all tos id cw ttl proto) 12 src).length = 60 := by rw [laid_length 12 (by omega), h6]
  have h8 : (laid (laid (hd6 size all tos id cw ttl proto) 12 src) 16 dst).length = 60 := by rw [laid_length 16 (by omega), h7]
  unfold hd9
  rw [laid_length 20 (by omega), h8]
theorem hd9_fit (size all : Nat) (tos id cw ttl proto : Int) (src dst opts : List Int) (hs : size ≤ 60) (ha : all ≤ 65535) (ht : 0 ≤ tos ∧ tos < 256) (hi : 0 ≤ id ∧ id ≤ 65535) (hc : 0 ≤ cw ∧ cw ≤ 65535) (hl : 0 ≤ ttl ∧ ttl < 256) (hp : 0 ≤ proto ∧ proto < 256) (fs : Fit src) (fd : Fit dst) (fo : Fit opts) : Fit (hd9 size all tos id cw ttl proto src dst opts) :=
  laid_fit (laid_fit (laid_fit (set_fit (set_fit (putL_fit (putL_fit (putL_fit (hd1_fit size tos hs ht) 2 all (by omega)) 4 id hi) 6 cw hc) 8 ttl hl) 9 proto hp) fs 12) fd 16) fo 20
theorem hdF_length (size all : Nat) (tos id cw ttl proto : Int) (src dst opts : List Int) (hs : src.length = 4) (hd : dst.length = 4) (ho : opts.length ≤ 40) : (hdF size all tos id cw ttl proto src dst opts).length = 60 := by
  unfold hdF
  rw [putL_length, hd9_length _ _ _ _ _ _ _ _ _ _ hs hd ho]
theorem ckW_range {zs : List Int} (h : Fit zs) (size : Nat) : 0 ≤ ckW zs size ∧ ckW zs size ≤ 65535 := by
  have hrg := sumW_range (wordsL (zs.take size)) 0 (by decide) (wordsL_words (fun z hz => h z (List.mem_of_mem_take hz)))
  unfold ckW
  omega
theorem hdF_fit (size all : Nat) (tos id cw ttl proto : Int) (src dst opts : List Int) (hs : size ≤ 60) (ha : all ≤ 65535) (ht : 0 ≤ tos ∧ tos < 256) (hi : 0 ≤ id ∧ id ≤ 65535) (hc : 0 ≤ cw ∧ cw ≤ 65535) (hl : 0 ≤ ttl ∧ ttl < 256) (hp : 0 ≤ proto ∧ proto < 256) (fs : Fit src) (fd : Fit dst) (fo : Fit opts) : Fit (hdF size all tos id cw ttl proto src dst opts) := by
  have h9 := hd9_fit size all tos id cw ttl proto src dst opts hs ha ht hi hc hl hp fs fd fo
  exact putL_fit h9 10 _ (ckW_range h9 size)
theorem cutW_range (off : Int) (df mf : Bool) (ho : 0 ≤ off ∧ off ≤ 8191) : 0 ≤ cutW off df mf ∧ cutW off df mf ≤ 65535 := by
  unfold cutW
  cases df <;> cases mf <;> simp <;> omega

/-- A box of 60 bytes, made and filled. -/
theorem box60 (w : World) (F : List Int) (hl : F.length = 60) : ∃ w3, (Instr.storeAt 53 (.pointer (some ⟨w.heap.size, 0, none⟩)) (.agg (u8L F).toArray)).run Try.prog (w.alloc (.cells #[.int .u8 0, .int .u8 0, .int .u8 0, .int .u8 0, .int .u8 0, .int .u8 0, .int .u8 0, .int .u8 0, .int .u8 0, .int .u8 0, .int .u8 0, .int .u8 0, .int .u8 0, .int .u8 0, .int .u8 0, .int .u8 0, .int .u8 0, .int .u8 0, .int .u8 0, .int .u8 0, .int .u8 0, .int .u8 0, .int .u8 0, .int .u8 0, .int .u8 0, .int .u8 0, .int .u8 0, .int .u8 0, .int .u8 0, .int .u8 0, .int .u8 0, .int .u8 0, .int .u8 0, .int .u8 0, .int .u8 0, .int .u8 0, .int .u8 0, .int .u8 0, .int .u8 0, .int .u8 0, .int .u8 0, .int .u8 0, .int .u8 0, .int .u8 0, .int .u8 0, .int .u8 0, .int .u8 0, .int .u8 0, .int .u8 0, .int .u8 0, .int .u8 0, .int .u8 0, .int .u8 0, .int .u8 0, .int .u8 0, .int .u8 0, .int .u8 0, .int .u8 0, .int .u8 0, .int .u8 0] 53)) = .ok () w3 ∧ OwnG w3 w.heap.size F ∧ Below w.heap.size w w3 ∧ w3.heap.size = w.heap.size + 1 := by
  rw [← z60_lit]
  have hb := blk_new w (.cells (u8L z60).toArray 53)
  have h60 : (u8L F).length = 60 := by simp [u8L, hl]
  have hown := OwnG.of_u8L hb
  have hs : ∀ j, j < (u8L F).length → ((w.alloc (.cells (u8L z60).toArray 53)).cell? ⟨w.heap.size, 0 + j, none⟩).isSome = true := fun j hj => by
    rw [Nat.zero_add, hown.cell j (by rw [h60] at hj; simpa [z60] using hj)]
    rfl
  have h1 : ∀ v ∈ u8L F, v.oneCell' = true := fun v hv => by
    obtain ⟨z, _, rfl⟩ := List.mem_map.1 hv
    rfl
  have hO : Only w.heap.size (w.alloc (.cells (u8L z60).toArray 53)) ((w.alloc (.cells (u8L z60).toArray 53)).setCells w.heap.size 0 (u8L F)) := Only.sets _ _ _ (Only.refl _ _)
  refine ⟨_, agg_store Try.sizeOf53 h60 h1 hs hown.open, ⟨row_typed _ _ _ ⟨_, _, hb⟩, fun j hj => ?_⟩, ((Below.refl _ w).alloc (Nat.le_refl _) _).trans ((hO.below (Nat.le_refl _)).mono (by simp)), by rw [hO.size]; simp⟩
  have := World.cell?_setCells_in w.heap.size (u8L F) 0 (w.alloc (.cells (u8L z60).toArray 53)) hs j (by rw [h60]; omega)
  rw [Nat.zero_add] at this
  rw [this]
  simp [u8L, hj]

/-- A datagram: its cells, what they say, and its bytes. -/
structure Dgram (w : World) (c : List Value) (tos id : Int) (df mf : Bool) (off ttl proto s0 s1 s2 s3 d0 d1 d2 d3 : Int) (opts body : List Int) : Prop where
  cells : ∃ so sb, V4c c tos id df mf off ttl proto [s0, s1, s2, s3] [d0, d1, d2, d3] so sb ∧ BytesAt w.heap.size w so opts ∧ BytesAt w.heap.size w sb body
  hid : 0 ≤ id ∧ id ≤ 65535
  ft : 0 ≤ tos ∧ tos < 256
  fl : 0 ≤ ttl ∧ ttl < 256
  fp : 0 ≤ proto ∧ proto < 256
  fs : Fit [s0, s1, s2, s3]
  fd : Fit [d0, d1, d2, d3]
  bo : -9223372036854775808 ≤ off ∧ off ≤ 9223372036854775807

theorem Dgram.lens {w : World} {c : List Value} {tos id : Int} {df mf : Bool} {off ttl proto s0 s1 s2 s3 d0 d1 d2 d3 : Int} {opts body : List Int} (h : Dgram w c tos id df mf off ttl proto s0 s1 s2 s3 d0 d1 d2 d3 opts body) : Lens c off opts.length body.length := by
  obtain ⟨so, sb, hc, ho, hb⟩ := h.cells
  obtain ⟨_, lo, ao, ko, rfl, _⟩ := ho
  obtain ⟨_, lb, ab, kb, rfl, _⟩ := hb
  exact ⟨by rw [hc.eq]; simp, by rw [hc.eq]; rfl, ⟨ao, ko, by rw [hc.eq]; rfl⟩, ⟨ab, kb, by rw [hc.eq]; rfl⟩, h.bo, lo, lb⟩
theorem Dgram.on {w w' : World} {c : List Value} {tos id : Int} {df mf : Bool} {off ttl proto s0 s1 s2 s3 d0 d1 d2 d3 : Int} {opts body : List Int} (h : Dgram w c tos id df mf off ttl proto s0 s1 s2 s3 d0 d1 d2 d3 opts body) (hb : Below w.heap.size w w') : Dgram w' c tos id df mf off ttl proto s0 s1 s2 s3 d0 d1 d2 d3 opts body := by
  obtain ⟨so, sb, hc, ho, hbd⟩ := h.cells
  exact ⟨⟨so, sb, hc, ho.later hb, hbd.later hb⟩, h.hid, h.ft, h.fl, h.fp, h.fs, h.fd, h.bo⟩

/-- The bytes of a datagram. -/
def wrL (tos id : Int) (df mf : Bool) (off ttl proto s0 s1 s2 s3 d0 d1 d2 d3 : Int) (opts body : List Int) : List Int :=
  (hdF (20 + opts.length) (20 + opts.length + body.length) tos id (cutW off df mf) ttl proto [s0, s1, s2, s3] [d0, d1, d2, d3] opts).take (20 + opts.length) ++ body

set_option maxHeartbeats 4000000 in
set_option maxRecDepth 100000 in
theorem Write_ok (c : List Value) (tos id : Int) (df mf : Bool) (off ttl proto s0 s1 s2 s3 d0 d1 d2 d3 : Int) (opts body : List Int) (w : World)
    (h : Dgram w c tos id df mf off ttl proto s0 s1 s2 s3 d0 d1 d2 d3 opts body) (hk : chk off opts.length body.length = 0) :
    Calls Try.prog 11 #[.agg c.toArray] w fun e w' => ∃ g, e = .returned (.tuple #[.slice (some ⟨g, 0, none⟩) (20 + opts.length + body.length) (20 + opts.length + body.length), .int .i64 0]) ∧ w.heap.size ≤ g ∧ OwnG w' g (wrL tos id df mf off ttl proto s0 s1 s2 s3 d0 d1 d2 d3 opts body) ∧ Below w.heap.size w w' := by
  have hL := h.lens
  have hb0 := blk_new w (.cells c.toArray 27)
  have hB0 := (Below.refl w.heap.size w).alloc (Nat.le_refl _) (.cells c.toArray 27)
  have hsz := fun w => Size_calls c off opts.length body.length w hL
  rw [hk] at hsz
  simp only [if_true] at hsz
  have hno : opts.length ≤ 40 ∧ 20 + opts.length + body.length ≤ 65535 ∧ 0 ≤ off ∧ off ≤ 8191 := by
    unfold chk badV longV at hk
    by_cases hx : (decide (off < 0) || decide (8191 < off) || decide (40 < opts.length) || decide (opts.length % 4 ≠ 0)) = true
    · rw [if_pos hx] at hk; omega
    · rw [if_neg hx] at hk
      by_cases hy : decide (65535 < 20 + opts.length + body.length) = true
      · rw [if_pos hy] at hk; omega
      · simp only [Bool.or_eq_true, decide_eq_true_eq, not_or] at hx hy
        omega
  obtain ⟨size, hsize⟩ : ∃ s, s = 20 + opts.length := ⟨_, rfl⟩
  obtain ⟨all, hall⟩ : ∃ s, s = 20 + opts.length + body.length := ⟨_, rfl⟩
  rw [show (20 + (opts.length : Int) + (body.length : Int)) = (all : Int) by omega, show (20 + (opts.length : Int)) = (size : Int) by omega] at hsz
  obtain ⟨so, sb, hc, hso, hsb⟩ := h.cells
  have hhd := fun (w' : World) (hb : Below w.heap.size w w') => head_calls c tos id df mf off ttl proto s0 s1 s2 s3 d0 d1 d2 d3 opts so sb all size w' hc (hso.later hb) hsize hno.1 (by omega) ⟨hno.2.2.1, hno.2.2.2⟩ h.hid h.ft h.fl h.fp h.fs h.fd
  have h16 : c[16]? = some sb := by rw [hc.eq]; rfl
  have ha1 : 20 ≤ size := by omega
  have ha2 : size ≤ 60 := by omega
  have ha3 : all = size + body.length := by omega
  have ha4 : all ≤ 65535 := by omega
  rw [← hall]
  have hwr : wrL tos id df mf off ttl proto s0 s1 s2 s3 d0 d1 d2 d3 opts body = (hdF size all tos id (cutW off df mf) ttl proto [s0, s1, s2, s3] [d0, d1, d2, d3] opts).take size ++ body := by unfold wrL; rw [← hall, ← hsize]
  rw [hwr]
  have hFl : (hdF size all tos id (cutW off df mf) ttl proto [s0, s1, s2, s3] [d0, d1, d2, d3] opts).length = 60 := hdF_length _ _ _ _ _ _ _ _ _ _ rfl rfl hno.1
  have hFf : Fit (hdF size all tos id (cutW off df mf) ttl proto [s0, s1, s2, s3] [d0, d1, d2, d3] opts) := hdF_fit _ _ _ _ _ _ _ _ _ _ (by omega) (by omega) h.ft h.hid (cutW_range off df mf ⟨hno.2.2.1, hno.2.2.2⟩) h.fl h.fp h.fs h.fd hso.fit
  generalize hdF size all tos id (cutW off df mf) ttl proto [s0, s1, s2, s3] [d0, d1, d2, d3] opts = F at *
  have HHD : Hid _ := hhd
  have HSB : Hid _ := hsb
  have H16 : Hid _ := h16
  have HFL : Hid _ := hFl
  have HFF : Hid _ := hFf
  have HA3 : Hid _ := ha3
  clear hhd hsb h16 hFl hFf ha3 hwr hsize hall hso hc hno
  have HLD : Hid _ := agg_load (t := 27) Try.isAgg27 Try.sizeOf27 hL.len (CellsAt.of_blk hb0)
  have HSZ : Hid _ := hsz
  have HD : Hid _ := h
  have HB0 : Hid _ := hB0
  have HBK : Hid _ := hb0
  have HLEN : Hid _ := hL.len
  have HK : Hid _ := hk
  obtain ⟨i, hi, hz0, hs, hby⟩ := info_parts info_u8
  clear hsz hb0 hB0 h hL hk
  go_enter Try.func11, Try.ntmps11
  go_wp2_with ((with_reducible show wpList _ _ _ _ _ _); refine arm_load rfl (.tmp 1) 27 rfl rfl HLD.out ?_)
  refine Calls.mono (HSZ.out _) ?_
  rintro e1 w1 ⟨rfl, hb1⟩
  have hbk1 := blk_on HBK.out hb1
  have HL1 : Hid _ := agg_load (t := 27) Try.isAgg27 Try.sizeOf27 HLEN.out (CellsAt.of_blk hbk1)
  have hbl1 := HB0.out.trans (hb1.mono HB0.out.size)
  clear HSZ HLD hb1 HB0 HBK
  go_wp2_with ((with_reducible show wpList _ _ _ _ _ _); refine arm_load rfl (.tmp 1) 27 rfl rfl HL1.out ?_)
  refine Calls.mono (HHD.out w1 hbl1) ?_
  rintro e2 w2 ⟨rfl, hb2⟩
  have hbl2 := hbl1.trans (hb2.mono hbl1.size)
  have hbk2 := blk_on hbk1 hb2
  obtain ⟨w3, hst, hown3, hbel3, honly3⟩ := box60 w2 F HFL.out
  have hbk3 := blk_on hbk2 hbel3
  have hbl3 := hbl2.trans (hbel3.mono hbl2.size)
  have HST : Hid _ := hst
  clear hst hbk1 HL1 hb2 HHD hbk2 hbl2
  have i1 : (size : Int) ≤ 60 := by omega
  have i2 : (size : Int) ≤ (all : Int) := by have := HA3.out; omega
  have HO3 : Hid _ := honly3
  have hge3 : w2.heap.size < w3.heap.size := by omega
  clear honly3
  go_wp2_with first
    | ((with_reducible show wpList _ _ _ _ _ _); refine arm_store rfl _ _ 53 rfl rfl rfl HST.out ?_)
    | (at_make; refine wpList_make_full _ rfl _ _ _ rfl w3.heap.size 5 i (.int .u8 0) 1 Try.underlying25 hi hz0 hs .i64 .i64 _ _ all rfl rfl rfl rfl (by rw [hby]; omega) (by unfold maxLen; omega) (Nat.le_refl _) ?_; intro w4 hown hgr; have hG4 := made_own hown; have hB4 := (Below.refl _ w3).grown hgr (Nat.le_refl _) (fun k hk => by cases hk); have hsrc1 := (hown3.kept hown3.lt hB4).bytes HFF.out (by rw [HFL.out]; decide) 0 size 60 (by rw [HFL.out]; omega); clear hown hgr)
    | ((with_reducible show wpList _ _ _ _ _ _); refine arm_copy rfl (.tmp 24) (.tmp 26) _ _ rfl rfl rfl (hG4.copy hsrc1 0 all all (by simp) (by simp [HFL.out]; omega) _) ?_; rintro v5 w5 ⟨own5, only5⟩)
  have hw0 : w.heap.size < w3.heap.size := (Array.getElem?_eq_some_iff.1 hbk3).1
  have hbk5 : w5.heap[w.heap.size]? = some (.cells c.toArray 27) := (only5.other _ (by omega)).trans (blk_on hbk3 hB4)
  have hbl4 := hbl3.trans (hB4.mono hbl3.size)
  have hbl5 := hbl4.trans (only5.below hbl3.size)
  have k16 : w5.cell? ⟨w.heap.size, 16, none⟩ = some sb := by simp [World.cell?, hbk5, H16.out]
  have hsb5 : BytesAt w.heap.size w5.drew sb body := HSB.out.below hbl5.drew
  have own5' : OwnG w5.drew w3.heap.size ((List.replicate all (0 : Int)).take 0 ++ List.take size (List.drop 0 F) ++ (List.replicate all (0 : Int)).drop (0 + (List.take size (List.drop 0 F)).length)) := ⟨own5.typed, own5.cell⟩
  have hlt5 : (List.take size (List.drop 0 F)).length = size := by simp [HFL.out]; omega
  have hA3 := HA3.out
  have e5 : (List.replicate all (0 : Int)).take 0 ++ List.take size (List.drop 0 F) ++ (List.replicate all (0 : Int)).drop (0 + (List.take size (List.drop 0 F)).length) = F.take size ++ List.replicate body.length 0 := by
    rw [hlt5, Nat.zero_add, List.drop_replicate]
    simp
    omega
  rw [e5] at own5'
  have hlt6 : (F.take size).length = size := by simpa using hlt5
  have OWN : Hid _ := own5'
  have HSB5 : Hid _ := hsb5
  have HBL5 : Hid _ := hbl5
  have HLT6 : Hid _ := hlt6
  clear own5' hsb5 hbl5 own5 only5 hbk5 hbl4 hG4 hB4 hsrc1 hown3 hbk3 hbl3 hbel3 HST e5 hlt5 hA3 hlt6
  by_cases hb0 : body.length = 0
  · have hall : all = size := by have := HA3.out; omega
    subst hall
    obtain rfl : body = [] := List.length_eq_zero_iff.1 hb0
    obtain ⟨_, _, ab, kb, hsbe, _⟩ := HSB.out
    subst hsbe
    have hinf : (Try.prog.info? 5).map (·.size) = some 1 := by kernel_rfl
    have HIN : Hid _ := hinf
    have ownF := OWN.out
    simp only [List.length_nil, List.replicate_zero, List.append_nil] at ownF
    have OWNF : Hid _ := ownF
    clear hinf ownF OWN hb0
    go_region_law (refine step_copyR (R := fun w2 => w2 = w5.drew) rfl _ _ _ _ rfl rfl rfl ⟨_, _, run_copy_none w5.drew _ _ _ 5 _ ab _ _ _ kb Try.underlying25 HIN.out (by simp), rfl⟩ ?_; rintro v6 w6 rfl)
    go_wp2
    go_ret2
    refine ⟨w3.heap.size, rfl, by omega, ?_, HBL5.out.drew⟩
    rw [List.append_nil]
    exact OWNF.out
  · have i4 : ¬ all = size := by have := HA3.out; omega
    have i3 : (size : Int) < (all : Int) := by have := HA3.out; omega
    go_region_law (refine step_copyR rfl _ _ _ _ rfl rfl rfl (OWN.out.copy HSB5.out size (all - size) (all - size) (by rw [List.length_append, HLT6.out, List.length_replicate]; have := HA3.out; omega) (by have := HA3.out; omega) _) ?_; rintro v6 w6 ⟨own6, only6⟩)
    go_wp2
    go_ret2
    refine ⟨w3.heap.size, rfl, by omega, ?_, HBL5.out.drew.trans (only6.below (by omega))⟩
    have e6 : (F.take size ++ List.replicate body.length 0).take size ++ body ++ (F.take size ++ List.replicate body.length (0 : Int)).drop (size + body.length) = F.take size ++ body := by
      have hl := HLT6.out
      rw [List.take_append_of_le_length (by omega), List.take_of_length_le (by omega), List.drop_eq_nil_of_le (by simp; omega), List.append_nil]
    rw [e6] at own6
    exact own6

set_option maxHeartbeats 1000000 in
set_option maxRecDepth 100000 in
theorem Write_no (c : List Value) (off : Int) (no nb : Nat) (w : World) (hL : Lens c off no nb) (hk : chk off no nb ≠ 0) :
    Calls Try.prog 11 #[.agg c.toArray] w fun e w' => e = .returned (.tuple #[.slice none 0 0, .int .i64 (chk off no nb)]) ∧ Below w.heap.size w w' := by
  have hb0 := blk_new w (.cells c.toArray 27)
  have hB0 := (Below.refl w.heap.size w).alloc (Nat.le_refl _) (.cells c.toArray 27)
  have hsz := fun w => Size_calls c off no nb w hL
  simp only [if_neg hk] at hsz
  have HLD : Hid _ := agg_load (t := 27) Try.isAgg27 Try.sizeOf27 hL.len (CellsAt.of_blk hb0)
  have HSZ : Hid _ := hsz
  have HB0 : Hid _ := hB0
  have q : (chk off no nb != 0) = true := by simp [hk]
  clear hsz hb0 hB0 hL
  generalize chk off no nb = k at *
  go_enter Try.func11, Try.ntmps11
  go_wp2_with ((with_reducible show wpList _ _ _ _ _ _); refine arm_load rfl (.tmp 1) 27 rfl rfl HLD.out ?_)
  refine Calls.mono (HSZ.out _) ?_
  rintro e1 w1 ⟨rfl, hb1⟩
  have hbl1 := HB0.out.trans (hb1.mono HB0.out.size)
  clear HSZ HLD hb1 HB0
  go_wp2
  go_ret2
  exact ⟨rfl, hbl1⟩

end Go.Proofs.Ytmoogfdmlbalbaa
