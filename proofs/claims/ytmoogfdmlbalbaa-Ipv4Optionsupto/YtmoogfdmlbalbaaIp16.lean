/-
  The walk of the statement Ipv4Alike.
-/
import Derived.Test.YtmoogfdmlbalbaaIp12
import Derived.Test.YtmoogfdmlbalbaaIp13
import Derived.Test.YtmoogfdmlbalbaaIp15
import Derived.Test.YtmoogfdmlbalbaaIp10
namespace Go.Proofs.Ytmoogfdmlbalbaa
open Go Go.RowKit
set_option linter.unusedVariables false
set_option linter.unusedSimpArgs false

/-- What Hop answers: a datagram, by its fields. -/
def HopD (tos id : Int) (df mf : Bool) (off ttl proto s0 s1 s2 s3 d0 d1 d2 d3 : Int) (opts body : List Int) (W : World) (c' : List Value) : Prop :=
  if hopK off ttl opts.length body.length = 0 then Dgram W c' tos id df mf off (ttl - 1) proto s0 s1 s2 s3 d0 d1 d2 d3 opts body else Dgram W c' 0 0 false false 0 0 0 0 0 0 0 0 0 0 0 [] []
theorem HopD.on {tos id : Int} {df mf : Bool} {off ttl proto s0 s1 s2 s3 d0 d1 d2 d3 : Int} {opts body : List Int} {W W' : World} {c' : List Value} (h : HopD tos id df mf off ttl proto s0 s1 s2 s3 d0 d1 d2 d3 opts body W c') (hb : Below W.heap.size W W') : HopD tos id df mf off ttl proto s0 s1 s2 s3 d0 d1 d2 d3 opts body W' c' := by
  unfold HopD at *
  split
  · next hk => rw [if_pos hk] at h; exact h.on hb
  · next hk => rw [if_neg hk] at h; exact h.on hb
theorem HopD.len {tos id : Int} {df mf : Bool} {off ttl proto s0 s1 s2 s3 d0 d1 d2 d3 : Int} {opts body : List Int} {W : World} {c' : List Value} (h : HopD tos id df mf off ttl proto s0 s1 s2 s3 d0 d1 d2 d3 opts body W c') : c'.length = 17 ∧ ∀ v ∈ c', v.oneCell' = true := by
  have key : ∀ {tos id : Int} {df mf : Bool} {off ttl proto s0 s1 s2 s3 d0 d1 d2 d3 : Int} {opts body : List Int}, Dgram W c' tos id df mf off ttl proto s0 s1 s2 s3 d0 d1 d2 d3 opts body → c'.length = 17 ∧ ∀ v ∈ c', v.oneCell' = true := by
    intro tos id df mf off ttl proto s0 s1 s2 s3 d0 d1 d2 d3 opts body hd
    refine ⟨hd.lens.len, ?_⟩
    obtain ⟨so, sb, hc, ho, hb⟩ := hd.cells
    obtain ⟨_, _, ao, ko, rfl, _⟩ := ho
    obtain ⟨_, _, ab, kb, rfl, _⟩ := hb
    rw [hc.eq]
    simp [Value.oneCell']
  unfold HopD at h
  split at h
  · exact key h
  · exact key h
theorem HopD.same {tos id : Int} {df mf : Bool} {off ttl proto s0 s1 s2 s3 d0 d1 d2 d3 : Int} {opts body : List Int} {W : World} {a b : List Value} (ha : HopD tos id df mf off ttl proto s0 s1 s2 s3 d0 d1 d2 d3 opts body W a) (hb : HopD tos id df mf off ttl proto s0 s1 s2 s3 d0 d1 d2 d3 opts body W b) :
    Calls Try.prog 22 #[.agg a.toArray, .agg b.toArray] W fun e w' => e = .returned (.bool true) ∧ Below W.heap.size W w' := by
  unfold HopD at ha hb
  split at ha
  · next hk =>
    rw [if_pos hk] at hb
    have := RSame_calls W ha hb
    rwa [sameB_self] at this
  · next hk =>
    rw [if_neg hk] at hb
    have := RSame_calls W ha hb
    rwa [sameB_self] at this

theorem Hop_any (c : List Value) (tos id : Int) (df mf : Bool) (off ttl proto s0 s1 s2 s3 d0 d1 d2 d3 : Int) (opts body : List Int) (w : World) (h : Dgram w c tos id df mf off ttl proto s0 s1 s2 s3 d0 d1 d2 d3 opts body) :
    Calls Try.prog 23 #[.agg c.toArray] w fun e w' => ∃ c', e = .returned (.tuple #[.agg c'.toArray, .int .i64 (hopK off ttl opts.length body.length)]) ∧ HopD tos id df mf off ttl proto s0 s1 s2 s3 d0 d1 d2 d3 opts body w' c' ∧ Below w.heap.size w w' := by
  unfold HopD
  by_cases hk : hopK off ttl opts.length body.length = 0
  · refine (Hop_ok c tos id df mf off ttl proto s0 s1 s2 s3 d0 d1 d2 d3 opts body w h hk).mono ?_
    rintro e w' ⟨c', rfl, hd, hb⟩
    exact ⟨c', by rw [hk], by rw [if_pos hk]; exact hd, hb⟩
  · refine (Hop_no c tos id df mf off ttl proto s0 s1 s2 s3 d0 d1 d2 d3 opts body w h hk).mono ?_
    rintro e w' ⟨rfl, hb⟩
    exact ⟨zeroC, rfl, by rw [if_neg hk]; exact zero_dg w', hb⟩
theorem RHop_any (c : List Value) (tos id : Int) (df mf : Bool) (off ttl proto s0 s1 s2 s3 d0 d1 d2 d3 : Int) (opts body : List Int) (w : World) (h : Dgram w c tos id df mf off ttl proto s0 s1 s2 s3 d0 d1 d2 d3 opts body) :
    Calls Try.prog 24 #[.agg c.toArray] w fun e w' => ∃ c', e = .returned (.tuple #[.agg c'.toArray, .int .i64 (hopK off ttl opts.length body.length)]) ∧ HopD tos id df mf off ttl proto s0 s1 s2 s3 d0 d1 d2 d3 opts body w' c' ∧ Below w.heap.size w w' := by
  unfold HopD
  by_cases hk : hopK off ttl opts.length body.length = 0
  · refine (RHop_ok c tos id df mf off ttl proto s0 s1 s2 s3 d0 d1 d2 d3 opts body w h hk).mono ?_
    rintro e w' ⟨c', rfl, hd, hb⟩
    exact ⟨c', by rw [hk], by rw [if_pos hk]; exact hd, hb⟩
  · refine (RHop_no c tos id df mf off ttl proto s0 s1 s2 s3 d0 d1 d2 d3 opts body w h hk).mono ?_
    rintro e w' ⟨rfl, hb⟩
    exact ⟨zeroC, rfl, by rw [if_neg hk]; exact zero_dg w', hb⟩

/-- A new box with a datagram in it. -/
theorem box17 (w : World) (V : List Value) (hV : V.length = 17 ∧ ∀ v ∈ V, v.oneCell' = true) :
    ∃ w3, (Instr.storeAt 27 (.pointer (some ⟨w.heap.size, 0, none⟩)) (.agg V.toArray)).run Try.prog (w.alloc (.cells zeroC.toArray 27)) = .ok () w3 ∧ CellsAt w3 w.heap.size 0 V ∧ Below w.heap.size w w3 ∧ w.heap.size < w3.heap.size := by
  have hb := blk_new w (.cells zeroC.toArray 27)
  have hs : ∀ j, j < V.length → ((w.alloc (.cells zeroC.toArray 27)).cell? ⟨w.heap.size, 0 + j, none⟩).isSome = true := fun j hj => by
    have hj' : j < zeroC.length := by have := hV.1; simp only [zeroC, List.length_cons, List.length_nil]; omega
    rw [Nat.zero_add, blk_cell hb (List.getElem?_eq_getElem hj')]
    rfl
  have hO : Only w.heap.size (w.alloc (.cells zeroC.toArray 27)) ((w.alloc (.cells zeroC.toArray 27)).setCells w.heap.size 0 V) := Only.sets _ _ _ (Only.refl _ _)
  exact ⟨_, agg_store Try.sizeOf27 hV.1 hV.2 hs (blk_open hb), CellsAt.stored _ hs, ((Below.refl _ w).alloc (Nat.le_refl _) _).trans ((hO.below (Nat.le_refl _)).mono (by simp)), by rw [hO.size]; simp⟩

set_option maxHeartbeats 4000000 in
set_option maxRecDepth 100000 in
theorem ipv4Alike_walk (c c' : List Value) (tos id : Int) (df mf : Bool) (off ttl proto s0 s1 s2 s3 d0 d1 d2 d3 : Int) (opts body : List Int) (tos' id' : Int) (df' mf' : Bool) (off' ttl' proto' s0' s1' s2' s3' d0' d1' d2' d3' : Int) (opts' body' : List Int) (w : World) (h : Dgram w c tos id df mf off ttl proto s0 s1 s2 s3 d0 d1 d2 d3 opts body) (h' : Dgram w c' tos' id' df' mf' off' ttl' proto' s0' s1' s2' s3' d0' d1' d2' d3' opts' body') :
    Calls Try.prog 5 #[.agg c.toArray, .agg c'.toArray] w fun e w' => e = .returned (.bool true) ∧ Below w.heap.size w w' := by
  have hl := h.lens.len
  have hl' := h'.lens.len
  have hbA := blk_alloc (blk_new w (.cells c.toArray 27)) (.cells c'.toArray 27)
  have hbB := blk_new (w.alloc (.cells c.toArray 27)) (.cells c'.toArray 27)
  rw [show (w.alloc (.cells c.toArray 27)).heap.size = w.heap.size + 1 by simp] at hbB
  have hB0 := ((Below.refl w.heap.size w).alloc (Nat.le_refl _) (.cells c.toArray 27)).alloc (by simp) (.cells c'.toArray 27)
  generalize hW0 : (w.alloc (.cells c.toArray 27)).alloc (.cells c'.toArray 27) = W0 at *
  have hLA : ∀ x : Hi W0, (Instr.loadAt 27 (.pointer (some ⟨w.heap.size, 0, none⟩))).run Try.prog x.W = .ok (.agg c.toArray) x.W := fun x => agg_load Try.isAgg27 Try.sizeOf27 hl (CellsAt.of_blk (Hi.blk hbA x))
  have hLB : ∀ x : Hi W0, (Instr.loadAt 27 (.pointer (some ⟨w.heap.size + 1, 0, none⟩))).run Try.prog x.W = .ok (.agg c'.toArray) x.W := fun x => agg_load Try.isAgg27 Try.sizeOf27 hl' (CellsAt.of_blk (Hi.blk hbB x))
  have hup : ∀ x : Hi W0, Below w.heap.size w x.W := fun x => hB0.trans (x.below.mono hB0.size)
  have hS1 := fun x : Hi W0 => Same_calls x.W (h.on (hup x)) (h'.on (hup x))
  have hS2 := fun x : Hi W0 => RSame_calls x.W (h.on (hup x)) (h'.on (hup x))
  have hS3 := fun x : Hi W0 => Same_calls x.W (h.on (hup x)) (h.on (hup x))
  simp only [sameB_self] at hS3
  have hH1 := fun x : Hi W0 => Hop_any c tos id df mf off ttl proto s0 s1 s2 s3 d0 d1 d2 d3 opts body x.W (h.on (hup x))
  have hH2 := fun x : Hi W0 => RHop_any c tos id df mf off ttl proto s0 s1 s2 s3 d0 d1 d2 d3 opts body x.W (h.on (hup x))
  generalize sameB tos id df mf off ttl proto s0 s1 s2 s3 d0 d1 d2 d3 opts body tos' id' df' mf' off' ttl' proto' s0' s1' s2' s3' d0' d1' d2' d3' opts' body' = sb at *
  have hD : ∀ W a, HopD tos id df mf off ttl proto s0 s1 s2 s3 d0 d1 d2 d3 opts body W a → a.length = 17 ∧ ∀ v ∈ a, v.oneCell' = true := fun W a ha => ha.len
  have hDon : ∀ W W' a, HopD tos id df mf off ttl proto s0 s1 s2 s3 d0 d1 d2 d3 opts body W a → Below W.heap.size W W' → HopD tos id df mf off ttl proto s0 s1 s2 s3 d0 d1 d2 d3 opts body W' a := fun W W' a ha hb => ha.on hb
  have hDs : ∀ W a b, HopD tos id df mf off ttl proto s0 s1 s2 s3 d0 d1 d2 d3 opts body W a → HopD tos id df mf off ttl proto s0 s1 s2 s3 d0 d1 d2 d3 opts body W b → Calls Try.prog 22 #[.agg a.toArray, .agg b.toArray] W fun e w' => e = .returned (.bool true) ∧ Below W.heap.size W w' := fun W a b ha hb => HopD.same ha hb
  generalize HopD tos id df mf off ttl proto s0 s1 s2 s3 d0 d1 d2 d3 opts body = HD at *
  generalize hopK off ttl opts.length body.length = kk at *
  have HW0 : Hid _ := hW0
  have HLA : Hid _ := hLA
  have HLB : Hid _ := hLB
  have HS1 : Hid _ := hS1
  have HS2 : Hid _ := hS2
  have HS3 : Hid _ := hS3
  have HH1 : Hid _ := hH1
  have HH2 : Hid _ := hH2
  have HUP : Hid _ := hup
  have HDL : Hid _ := hD
  have HDN : Hid _ := hDon
  have HDS : Hid _ := hDs
  have HBX : Hid _ := box17
  unfold zeroC at HBX
  have HLA0 : Hid _ := hLA (Hi.refl _)
  have HH10 : Hid _ := hH1 (Hi.refl _)
  rw [← HW0.out] at HLA0 HH10
  clear hLA hLB hS1 hS2 hS3 hH1 hH2 hup hD hDon hDs hbA hbB hB0 h h' hl hl' hW0
  go_enter Try.func5, Try.ntmps5
  go_wp2_with ((with_reducible show wpList _ _ _ _ _ _); refine arm_load rfl (.tmp 2) 27 rfl rfl HLA0.out ?_)
  refine Calls.mono HH10.out ?_
  rintro e1 w1 ⟨c1, rfl, hd1, hb1⟩
  replace hb1 : Below W0.heap.size W0 w1 := by rw [← HW0.out]; exact hb1
  obtain ⟨w2, hst2, cc1, hb2, hlt2⟩ := HBX.out w1 c1 (HDL.out _ _ hd1)
  have hb02 := hb1.trans (hb2.mono hb1.size)
  have hx2 : (Instr.loadAt 27 (.pointer (some ⟨w.heap.size, 0, none⟩))).run Try.prog w2 = .ok (.agg c.toArray) w2 := HLA.out ⟨w2, hb02⟩
  have hy2 : Calls Try.prog 24 #[.agg c.toArray] w2 fun e w' => ∃ c', e = .returned (.tuple #[.agg c'.toArray, .int .i64 kk]) ∧ HD w' c' ∧ Below w2.heap.size w2 w' := HH2.out ⟨w2, hb02⟩
  have HX2 : Hid _ := hx2
  have HY2 : Hid _ := hy2
  have HST : Hid _ := hst2
  have HD1 : Hid _ := HDN.out _ _ _ hd1 hb2
  have HC1 : Hid _ := cc1
  have HB02 : Hid _ := hb02
  have HL1 : Hid _ := (HDL.out _ _ hd1).1
  have HLT : Hid _ := hlt2
  clear hx2 hy2 HLA0 HH10 hb1 hd1 hst2 cc1 hb2 hlt2 hb02
  go_wp2_with first
    | ((with_reducible show wpList _ _ _ _ _ _); refine arm_load rfl (.tmp 2) 27 rfl rfl HX2.out ?_)
    | ((with_reducible show wpList _ _ _ _ _ _); refine arm_store rfl (.tmp 5) _ 27 rfl rfl rfl HST.out ?_)
  refine Calls.mono HY2.out ?_
  rintro e3 w3 ⟨c2, rfl, hd2, hb3⟩
  obtain ⟨w4, hst4, cc2, hb4, hlt4⟩ := HBX.out w3 c2 (HDL.out _ _ hd2)
  have hb24 : Below w2.heap.size w2 w4 := Below.trans hb3 (hb4.mono hb3.size)
  have hb04 := HB02.out.trans (hb24.mono HB02.out.size)
  have hl1 : ∀ x : Hi w4, (Instr.loadAt 27 (.pointer (some ⟨w1.heap.size, 0, none⟩))).run Try.prog x.W = .ok (.agg c1.toArray) x.W := fun x => agg_load Try.isAgg27 Try.sizeOf27 HL1.out (CellsAt.up (w := w2) HC1.out HLT.out ⟨x.W, hb24.trans (x.below.mono hb24.size)⟩)
  have hl2 : ∀ x : Hi w4, (Instr.loadAt 27 (.pointer (some ⟨w3.heap.size, 0, none⟩))).run Try.prog x.W = .ok (.agg c2.toArray) x.W := fun x => agg_load Try.isAgg27 Try.sizeOf27 (HDL.out _ _ hd2).1 (CellsAt.up (w := w4) cc2 hlt4 x)
  have hla : ∀ x : Hi w4, (Instr.loadAt 27 (.pointer (some ⟨w.heap.size, 0, none⟩))).run Try.prog x.W = .ok (.agg c.toArray) x.W := fun x => HLA.out ⟨x.W, hb04.trans (x.below.mono hb04.size)⟩
  have hlb : ∀ x : Hi w4, (Instr.loadAt 27 (.pointer (some ⟨w.heap.size + 1, 0, none⟩))).run Try.prog x.W = .ok (.agg c'.toArray) x.W := fun x => HLB.out ⟨x.W, hb04.trans (x.below.mono hb04.size)⟩
  have hs1 : ∀ x : Hi w4, Calls Try.prog 25 #[.agg c.toArray, .agg c'.toArray] x.W fun e w' => e = .returned (.bool sb) ∧ Below x.W.heap.size x.W w' := fun x => HS1.out ⟨x.W, hb04.trans (x.below.mono hb04.size)⟩
  have hs2 : ∀ x : Hi w4, Calls Try.prog 22 #[.agg c.toArray, .agg c'.toArray] x.W fun e w' => e = .returned (.bool sb) ∧ Below x.W.heap.size x.W w' := fun x => HS2.out ⟨x.W, hb04.trans (x.below.mono hb04.size)⟩
  have hs3 : ∀ x : Hi w4, Calls Try.prog 25 #[.agg c.toArray, .agg c.toArray] x.W fun e w' => e = .returned (.bool true) ∧ Below x.W.heap.size x.W w' := fun x => HS3.out ⟨x.W, hb04.trans (x.below.mono hb04.size)⟩
  have hs4 : ∀ x : Hi w4, Calls Try.prog 22 #[.agg c1.toArray, .agg c2.toArray] x.W fun e w' => e = .returned (.bool true) ∧ Below x.W.heap.size x.W w' := fun x => HDS.out _ _ _ (HDN.out _ _ _ HD1.out (hb24.trans (x.below.mono hb24.size))) (HDN.out _ _ _ (HDN.out _ _ _ hd2 hb4) x.below)
  have hfin : ∀ x : Hi w4, Below w.heap.size w x.W := fun x => HUP.out ⟨x.W, hb04.trans (x.below.mono hb04.size)⟩
  have HST4 : Hid _ := hst4
  have H1 : Hid _ := hl1
  have H2 : Hid _ := hl2
  have HA : Hid _ := hla
  have HB : Hid _ := hlb
  have HP1 : Hid _ := hs1
  have HP2 : Hid _ := hs2
  have HP3 : Hid _ := hs3
  have HP4 : Hid _ := hs4
  have HFIN : Hid _ := hfin
  clear hl1 hl2 hla hlb hs1 hs2 hs3 hs4 hfin hst4 hd2 hb3 cc2 hb4 hlt4 hb24 hb04 HX2 HY2 HST HS1 HS2 HS3 HH1 HH2 HUP HDL HDN HDS HBX HLA HLB HD1 HC1 HB02 HL1 HLT HW0
  go_wp2_with ((with_reducible show wpList _ _ _ _ _ _); refine arm_store rfl (.tmp 7) _ 27 rfl rfl rfl HST4.out ?_)
  refine wp_region_hi (by kernel_rfl) (by kernel_rfl) ?_
  clear HST4
  repeat (first
    | go_big_quiet_skip
    | (go_big_quiet_want; refine hi_load (.tmp 2) 27 rfl rfl HA.out ?_; simp only [Act.put, List.setIfInBounds_toArray, List.set_cons_zero, List.set_cons_succ]; go_big_quiet_on)
    | (go_big_quiet_want; refine hi_load (.tmp 3) 27 rfl rfl HB.out ?_; simp only [Act.put, List.setIfInBounds_toArray, List.set_cons_zero, List.set_cons_succ]; go_big_quiet_on)
    | (go_big_quiet_want; refine hi_load (.tmp 5) 27 rfl rfl H1.out ?_; simp only [Act.put, List.setIfInBounds_toArray, List.set_cons_zero, List.set_cons_succ]; go_big_quiet_on)
    | (go_big_quiet_want; refine hi_load (.tmp 7) 27 rfl rfl H2.out ?_; simp only [Act.put, List.setIfInBounds_toArray, List.set_cons_zero, List.set_cons_succ]; go_big_quiet_on)
    | (go_big_quiet_want; go_big_quiet_op; first | go_big_quiet_on | go_big_quiet_call (first | (go_at_call 25; with_reducible exact Hi.calls (HP1.out _)) | (go_at_call 25; with_reducible exact Hi.calls (HP3.out _)) | (go_at_call 22; with_reducible exact Hi.calls (HP2.out _)) | (go_at_call 22; with_reducible exact Hi.calls (HP4.out _)) | (go_at_call 17; exact Hi.calls (awake_calls _)))))
  refine wpQuiet_nil ?_
  intro _ hw
  obtain ⟨y, rfl⟩ := hw
  go_wp2
  go_ret
  exact ⟨rfl, HFIN.out y⟩

theorem ipv4Alike_open {H : Type} {enc : TypeId × Value → H} {W : World} {base : Nat} (v0 : Value) {d0 : DataW H} {p0 : List MemPlace} (v1 : Value) {d1 : DataW H} {p1 : List MemPlace}
    (o0 : Value.okWide Try.prog W .any base 27 v0) (h0 : DataW.Trod enc Try.prog W 0 (fun _ => true) true 27 v0 d0 p0) (z0 : ∀ k ∈ d0.weights Try.prog 27, k ≤ reachBytes)
    (o1 : Value.okWide Try.prog W .any base 27 v1) (h1 : DataW.Trod enc Try.prog W 0 (fun _ => true) true 27 v1 d1 p1) (z1 : ∀ k ∈ d1.weights Try.prog 27, k ≤ reachBytes) :
    Calls Try.prog 5 #[v0, v1] W fun e w' => e = .returned (.bool true) ∧ Below W.heap.size W w' := by
  obtain ⟨c, tos, id, df, mf, off, ttl, proto, s0, s1, s2, s3, e0, e1, e2, e3, opts, body, rfl, hD⟩ := open_v4 h0 z0
  obtain ⟨c', tos', id', df', mf', off', ttl', proto', s0', s1', s2', s3', e0', e1', e2', e3', opts', body', rfl, hD'⟩ := open_v4 h1 z1
  exact ipv4Alike_walk c c' tos id df mf off ttl proto s0 s1 s2 s3 e0 e1 e2 e3 opts body tos' id' df' mf' off' ttl' proto' s0' s1' s2' s3' e0' e1' e2' e3' opts' body' W hD hD'

end Go.Proofs.Ytmoogfdmlbalbaa
