/-
  bytes.Clone; Hop of both sides.
-/
import Derived.Test.YtmoogfdmlbalbaaIp9
import Derived.Lib.SliceRun
namespace Go.Proofs.Ytmoogfdmlbalbaa
open Go Go.RowKit Go.Shelf
set_option linter.unusedVariables false
set_option linter.unusedSimpArgs false

theorem blk_set {w : World} {b : Nat} {c : List Value} {t : TypeId} (h : w.heap[b]? = some (.cells c.toArray t)) (j : Nat) (v : Value) : (w.setCell ⟨b, j, none⟩ v).heap[b]? = some (.cells (c.set j v).toArray t) := by
  simp [World.setCell, Array.getElem?_modify, h]
theorem blk_set_other {w : World} {b b' : Nat} {o : Obj} (h : w.heap[b]? = some o) (hb : b ≠ b') (j : Nat) (v : Value) : (w.setCell ⟨b', j, none⟩ v).heap[b]? = some o :=
  (Below.heap_setCell _ _ _ _ hb).trans h
theorem blk_open {w : World} {b : Nat} {c : List Value} {t : TypeId} (h : w.heap[b]? = some (.cells c.toArray t)) (j : Nat) : w.frozen? ⟨b, j, none⟩ = false := by
  simp [World.frozen?, h]
theorem blk_cell {w : World} {b : Nat} {c : List Value} {t : TypeId} (h : w.heap[b]? = some (.cells c.toArray t)) {j : Nat} {v : Value} (hj : c[j]? = some v) : w.cell? ⟨b, j, none⟩ = some v := by
  simp [World.cell?, h, hj]
theorem res2 {P : Program} {fn : Func} {a b : Tmp} {t : TypeId} (h : fn.results = #[.cell a t, .tmp b]) {tmps : Array Value} {R : Addr} (hp : tmps.getD a undef = .pointer (some R)) {v : Value} {w : World} (hl : (loadVar t R).run P w = .ok v w) :
    (results fn tmps).run P w = .ok (.tuple #[v, tmps.getD b undef]) w := by
  rw [Array.getD_eq_getD_getElem?] at hp
  simp [results, h, hp, asAddr, hl]
/-- A datagram stored into a box for a result. -/
theorem slot17 {W : World} {R : Nat} {c : List Value} (h : W.heap[R]? = some (.cells c.toArray 27)) (hc : c.length = 17) (V : List Value) (hV : V.length = 17) (h1 : ∀ v ∈ V, v.oneCell' = true) :
    ∃ w3, (Instr.storeAt 27 (.pointer (some ⟨R, 0, none⟩)) (.agg V.toArray)).run Try.prog W = .ok () w3 ∧ (loadVar 27 ⟨R, 0, none⟩).run Try.prog w3 = .ok (.agg V.toArray) w3 ∧ Only R W w3 := by
  have hs : ∀ j, j < V.length → (W.cell? ⟨R, 0 + j, none⟩).isSome = true := fun j hj => by
    have hj' : j < c.length := by omega
    simp [World.cell?, h, hj']
  exact ⟨W.setCells R 0 V, agg_store Try.sizeOf27 hV h1 hs (blk_open h), agg_loadVar Try.isAgg27 Try.sizeOf27 hV (CellsAt.stored _ hs), Only.sets _ _ _ (Only.refl _ _)⟩

/-- 'append([]byte{}, v...)': a copy of its own, and where it lies. -/
theorem bytes_copied2 {w : World} {v : Value} {zs : List Int} (h : BytesAt w.heap.size w v zs) (B : Nat) (ty : TypeId) :
    ∃ a cap w2, (Builtin.append_ #[25, 25] ty #[.slice (some ⟨B, 0, none⟩) 0 0, v]).run Try.prog w = .ok (.slice a zs.length cap) w2 ∧ BytesAt w2.heap.size w2 (.slice a zs.length cap) zs ∧ Below w.heap.size w w2 ∧ (zs.length = 0 ∨ ∃ g off, a = some ⟨g, off, none⟩ ∧ w.heap.size ≤ g) := by
  obtain ⟨i, hi, hz, hs, hb⟩ := info_parts info_u8
  obtain ⟨hf, hl, a, cap, rfl, hv⟩ := h
  have src : ∃ news : List Value, news = zs.map (fun z => Value.int .u8 z) ∧ Src Try.prog i.size 25 (.slice a zs.length cap) zs.length news w := by
    refine ⟨_, rfl, ?_⟩
    rw [hs]
    rcases hv with hv | ⟨b, off, rfl, hlt, hc⟩
    · obtain rfl : zs = [] := List.length_eq_zero_iff.1 hv
      cases a with
      | none => exact Src.ofNil w Try.underlying25 cap
      | some x => exact Src.ofSlice w Try.underlying25 x 0 cap [] rfl (fun j u hj => by simp at hj) (fun u hu => by cases hu)
    · refine Src.ofSlice w Try.underlying25 _ _ cap _ (by simp) (fun j u hj => ?_) (fun u hu => ?_)
      · rw [List.getElem?_map] at hj
        obtain ⟨z, hz, rfl⟩ := Option.map_eq_some_iff.1 hj
        have hjl := (List.getElem?_eq_some_iff.1 hz).1
        have := hc j hjl
        rw [hz] at this
        rw [Go.WideShapes.add_plain]
        exact this
      · obtain ⟨z, _, rfl⟩ := List.mem_map.1 hu
        rfl
  obtain ⟨news, hnews, hsrc⟩ := src
  by_cases h0 : zs.length = 0
  · obtain rfl : zs = [] := List.length_eq_zero_iff.1 h0
    have hr := run_append_room_src w 25 25 ty 5 i Try.underlying25 hi B 0 0 0 _ 0 news hsrc (Nat.le_refl _) (fun j hj => by rw [hnews] at hj; simp at hj) (fun j hj => by rw [hnews] at hj; simp at hj)
    subst hnews
    refine ⟨_, _, _, hr, ⟨hf, by simp, _, _, rfl, .inl rfl⟩, Below.refl _ _, .inl rfl⟩
  · have hold : (Builtin.firstCells i.size 0 (.slice (some ⟨B, 0, none⟩) 0 0)).run Try.prog w.drew = .ok ([] : List Value).toArray w.drew := by
      exact run_firstCells_some w.drew i.size 0 ⟨B, 0, none⟩ 0 0 [] (by simp) (fun j u hj => by simp at hj)
    have hr := run_append_grow_src w 25 25 ty 5 i (.int .u8 0) Try.underlying25 hi hz (some ⟨B, 0, none⟩) 0 0 [] hold _ zs.length news hsrc (by omega) (by omega) (by
      rw [hb]
      have : Builtin.nextslicecap (0 + zs.length) 0 = zs.length := by
        unfold Builtin.nextslicecap
        simp
        intro e
        rw [e]; rfl
      omega)
    simp only [Nat.zero_add, List.nil_append] at hr
    refine ⟨_, _, _, hr, ?_, ((Below.refl _ w).drew).alloc (Nat.le_refl _) _, .inr ⟨_, _, rfl, Nat.le_refl _⟩⟩
    refine bytes_new w.drew 5 zs _ zs.length _ (fun j hj => ?_) rfl hl hf
    rw [hnews]
    simp [Array.getElem?_append, hj]

theorem bytes_only {W W' : World} {g : Nat} {v : Value} {zs : List Int} (h : BytesAt W.heap.size W v zs) (ho : Only g W W') (hl : zs.length = 0 ∨ ∃ b off n k, v = .slice (some ⟨b, off, none⟩) n k ∧ g < b) : BytesAt W'.heap.size W' v zs := by
  obtain ⟨hf, hle, a, cap, rfl, hz⟩ := h
  refine ⟨hf, hle, a, cap, rfl, ?_⟩
  rcases hz with hz | ⟨b, off, rfl, hlt, hc⟩
  · exact .inl hz
  · rcases hl with hl | ⟨b', off', n, k, e, hg⟩
    · exact .inl hl
    · cases e
      refine .inr ⟨b, off, rfl, by rw [ho.size]; exact hlt, fun j hj => ?_⟩
      rw [← hc j hj]
      have := ho.other b (by omega)
      simp [World.cell?, this]

set_option maxHeartbeats 1000000 in
set_option maxRecDepth 100000 in
theorem Clone_calls (v : Value) (zs : List Int) (w : World) (h : BytesAt w.heap.size w v zs) :
    Calls Try.prog 43 #[v] w fun e w' => ∃ u, e = .returned u ∧ BytesAt w'.heap.size w' u zs ∧ Below w.heap.size w w' ∧ (zs.length = 0 ∨ ∃ b off n k, u = .slice (some ⟨b, off, none⟩) n k ∧ w.heap.size ≤ b) := by
  obtain ⟨hf, hl, a, cap, rfl, hv⟩ := id h
  cases a with
  | none =>
    have h0 : zs = [] := by
      rcases hv with hv | ⟨b, off, e, _⟩
      · exact List.length_eq_zero_iff.1 hv
      · cases e
    subst h0
    have hB := Below.refl w.heap.size w
    have hN := BytesAt.none w
    have hq := Go.Lib.run_eql_slice_nil (P := Try.prog) w 25 5 none 0 cap 0 0 Try.underlying25
    clear h hf hl hv
    go_enter Try.func43, Try.ntmps43
    go_wp2
    go_ret
    exact ⟨_, rfl, hN, hB, by simp⟩
  | some x =>
    have hB0 := (Below.refl w.heap.size w).alloc (Nat.le_refl _) (.cells #[] 5)
    obtain ⟨a2, cap2, w2, hrun, hg, hb2, hloc⟩ := bytes_copied2 (h.later hB0) w.heap.size 25
    have hbl := hB0.trans (hb2.mono hB0.size)
    have H0 : Hid _ := hrun
    have hq := Go.Lib.run_eql_slice_nil (P := Try.prog) w 25 5 (some x) zs.length cap 0 0 Try.underlying25
    clear h hf hl hv hrun hb2 hB0
    go_enter Try.func43, Try.ntmps43
    go_wp2_with (at_builtin; refine wpList_append_run rfl _ _ _ _ rfl rfl rfl H0.out ?_; clear H0)
    go_ret
    refine ⟨_, rfl, hg, hbl, hloc.imp id ?_⟩
    rintro ⟨g, off, rfl, hle⟩
    exact ⟨g, off, _, _, rfl, Nat.le_trans (by simp) hle⟩

def hopK (off ttl : Int) (no nb : Nat) : Int := if chk off no nb = 0 then (if ttl < 2 then 46 else 0) else chk off no nb
def zeroC : List Value := [.int .u8 0, .int .u16 0, .bool false, .bool false, .int .i64 0, .int .u8 0, .int .u8 0, .int .u8 0, .int .u8 0, .int .u8 0, .int .u8 0, .int .u8 0, .int .u8 0, .int .u8 0, .int .u8 0, .slice none 0 0, .slice none 0 0]
theorem zero_dg (w : World) : Dgram w zeroC 0 0 false false 0 0 0 0 0 0 0 0 0 0 0 [] [] := by
  have hb : BytesAt w.heap.size w (.slice none 0 0) [] := ⟨fun z hz => by simp at hz, by simp, none, 0, rfl, .inl rfl⟩
  exact ⟨⟨_, _, ⟨rfl, rfl, rfl⟩, hb, hb⟩, by decide, by decide, by decide, by decide, fun z hz => by simp at hz; omega, fun z hz => by simp at hz; omega, by decide⟩
theorem zero_one : ∀ v ∈ zeroC, v.oneCell' = true := by simp [zeroC, Value.oneCell']

/-- The boxes of Hop: the datagram's, the answer's. -/
structure HopW (w W : World) (c : List Value) : Prop where
  vb : W.heap[w.heap.size]? = some (.cells c.toArray 27)
  rb : W.heap[w.heap.size + 1]? = some (.cells zeroC.toArray 27)
  bel : Below w.heap.size w W
theorem HopW.start (w : World) (c : List Value) : HopW w ((w.alloc (.cells c.toArray 27)).alloc (.cells zeroC.toArray 27)) c := by
  refine ⟨blk_alloc (blk_new w _) _, ?_, ((Below.refl w.heap.size w).alloc (Nat.le_refl _) _).alloc (by simp) _⟩
  have := blk_new (w.alloc (.cells c.toArray 27)) (.cells zeroC.toArray 27)
  rwa [show (w.alloc (.cells c.toArray 27)).heap.size = w.heap.size + 1 by simp] at this
theorem HopW.lt {w W : World} {c : List Value} (h : HopW w W c) : w.heap.size + 1 < W.heap.size := (Array.getElem?_eq_some_iff.1 h.rb).1
theorem HopW.on {w W W' : World} {c : List Value} (h : HopW w W c) (hb : Below W.heap.size W W') : HopW w W' c :=
  ⟨blk_on h.vb hb, blk_on h.rb hb, h.bel.trans (hb.mono h.bel.size)⟩
theorem HopW.set {w W : World} {c : List Value} (h : HopW w W c) (j : Nat) (v : Value) : HopW w (W.setCell ⟨w.heap.size, j, none⟩ v) (c.set j v) :=
  ⟨blk_set h.vb j v, blk_set_other h.rb (by omega) j v, h.bel.setCell (Nat.le_refl _) v⟩
theorem HopW.slot {w W : World} {c : List Value} (h : HopW w W c) (V : List Value) (hV : V.length = 17) (h1 : ∀ v ∈ V, v.oneCell' = true) :
    ∃ w3, (Instr.storeAt 27 (.pointer (some ⟨w.heap.size + 1, 0, none⟩)) (.agg V.toArray)).run Try.prog W = .ok () w3 ∧ (loadVar 27 ⟨w.heap.size + 1, 0, none⟩).run Try.prog w3 = .ok (.agg V.toArray) w3 ∧ Below w.heap.size w w3 ∧ Only (w.heap.size + 1) W w3 := by
  obtain ⟨w3, h3, l3, o3⟩ := slot17 h.rb rfl V hV h1
  exact ⟨w3, h3, l3, h.bel.trans (o3.below (by omega)), o3⟩
theorem HopW.load {w W : World} {c : List Value} (h : HopW w W c) (hl : c.length = 17) : (Instr.loadAt 27 (.pointer (some ⟨w.heap.size, 0, none⟩))).run Try.prog W = .ok (.agg c.toArray) W :=
  agg_load Try.isAgg27 Try.sizeOf27 hl (CellsAt.of_blk h.vb)

set_option maxHeartbeats 1000000 in
set_option maxRecDepth 100000 in
theorem Hop_no (c : List Value) (tos id : Int) (df mf : Bool) (off ttl proto s0 s1 s2 s3 d0 d1 d2 d3 : Int) (opts body : List Int) (w : World) (h : Dgram w c tos id df mf off ttl proto s0 s1 s2 s3 d0 d1 d2 d3 opts body) (hk : hopK off ttl opts.length body.length ≠ 0) :
    Calls Try.prog 23 #[.agg c.toArray] w fun e w' => e = .returned (.tuple #[.agg zeroC.toArray, .int .i64 (hopK off ttl opts.length body.length)]) ∧ Below w.heap.size w w' := by
  have hL := h.lens
  have fl := h.fl
  have h5 : c[5]? = some (.int .u8 ttl) := by obtain ⟨so, sb, hc, _⟩ := h.cells; rw [hc.eq]; rfl
  have hS := HopW.start w c
  have HC : Hid _ := fun w => Check_calls c off opts.length body.length w hL
  have HLD : Hid _ := hS.load hL.len
  have HS : Hid _ := hS
  have HSL : Hid _ := fun (W : World) (hW : HopW w W c) => hW.slot zeroC rfl zero_one
  unfold hopK at *
  clear h hL hS
  generalize chk off opts.length body.length = k at *
  by_cases h0 : k = 0
  · subst h0
    have hlt : ttl < 2 := by
      by_cases h2 : ttl < 2
      · exact h2
      · simp [h2] at hk
    have q : decide (ttl ≤ 1) = true := by simp; omega
    simp only [if_true, if_pos hlt]
    clear hk
    have HLT : Hid _ := hlt
    clear hlt
    unfold zeroC at *
    go_enter Try.func23, Try.ntmps23
    go_wp2_with ((with_reducible show wpList _ _ _ _ _ _); refine arm_load rfl (.tmp 1) 27 rfl rfl HLD.out ?_)
    refine Calls.mono (HC.out _) ?_
    rintro e w2 ⟨rfl, hb2⟩
    have hS2 := HS.out.on hb2
    have k5 := blk_cell hS2.vb h5
    obtain ⟨w3, hst, hld, hbl, _⟩ := HSL.out w2 hS2
    have HST : Hid _ := hst
    have HRS : Hid _ := hld
    clear hb2 HC HLD HS HSL h5 hst hld hS2
    go_wp2_with ((with_reducible show wpList _ _ _ _ _ _); refine arm_store rfl (.tmp 2) _ 27 rfl rfl rfl HST.out ?_)
    refine bodyPost_ret (res2 rfl rfl HRS.out) rfl ?_
    exact ⟨rfl, hbl⟩
  · have q : (k != 0) = true := by simp [h0]
    simp only [if_neg h0]
    clear hk
    unfold zeroC at *
    go_enter Try.func23, Try.ntmps23
    go_wp2_with ((with_reducible show wpList _ _ _ _ _ _); refine arm_load rfl (.tmp 1) 27 rfl rfl HLD.out ?_)
    refine Calls.mono (HC.out _) ?_
    rintro e w2 ⟨rfl, hb2⟩
    obtain ⟨w3, hst, hld, hbl, _⟩ := HSL.out w2 (HS.out.on hb2)
    have HST : Hid _ := hst
    have HRS : Hid _ := hld
    clear hb2 HC HLD HS HSL h5 hst hld
    go_wp2_with ((with_reducible show wpList _ _ _ _ _ _); refine arm_store rfl (.tmp 2) _ 27 rfl rfl rfl HST.out ?_)
    refine bodyPost_ret (res2 rfl rfl HRS.out) rfl ?_
    exact ⟨rfl, hbl⟩

set_option maxHeartbeats 1000000 in
set_option maxRecDepth 100000 in
theorem RHop_no (c : List Value) (tos id : Int) (df mf : Bool) (off ttl proto s0 s1 s2 s3 d0 d1 d2 d3 : Int) (opts body : List Int) (w : World) (h : Dgram w c tos id df mf off ttl proto s0 s1 s2 s3 d0 d1 d2 d3 opts body) (hk : hopK off ttl opts.length body.length ≠ 0) :
    Calls Try.prog 24 #[.agg c.toArray] w fun e w' => e = .returned (.tuple #[.agg zeroC.toArray, .int .i64 (hopK off ttl opts.length body.length)]) ∧ Below w.heap.size w w' := by
  have hL := h.lens
  have fl := h.fl
  have h5 : c[5]? = some (.int .u8 ttl) := by obtain ⟨so, sb, hc, _⟩ := h.cells; rw [hc.eq]; rfl
  have hS := HopW.start w c
  have HC : Hid _ := fun w => RCheck_calls c off opts.length body.length w hL
  have HLD : Hid _ := hS.load hL.len
  have HS : Hid _ := hS
  have HSL : Hid _ := fun (W : World) (hW : HopW w W c) => hW.slot zeroC rfl zero_one
  unfold hopK at *
  clear h hL hS
  generalize chk off opts.length body.length = k at *
  by_cases h0 : k = 0
  · subst h0
    have hlt : ttl < 2 := by
      by_cases h2 : ttl < 2
      · exact h2
      · simp [h2] at hk
    have q : decide (ttl < 2) = true := by simp; omega
    simp only [if_true, if_pos hlt]
    clear hk
    have HLT : Hid _ := hlt
    clear hlt
    unfold zeroC at *
    go_enter Try.func24, Try.ntmps24
    go_wp2_with ((with_reducible show wpList _ _ _ _ _ _); refine arm_load rfl (.tmp 1) 27 rfl rfl HLD.out ?_)
    refine Calls.mono (HC.out _) ?_
    rintro e w2 ⟨rfl, hb2⟩
    have hS2 := HS.out.on hb2
    have k5 := blk_cell hS2.vb h5
    obtain ⟨w3, hst, hld, hbl, _⟩ := HSL.out w2 hS2
    have HST : Hid _ := hst
    have HRS : Hid _ := hld
    clear hb2 HC HLD HS HSL h5 hst hld hS2
    go_wp2_with ((with_reducible show wpList _ _ _ _ _ _); refine arm_store rfl (.tmp 2) _ 27 rfl rfl rfl HST.out ?_)
    refine bodyPost_ret (res2 rfl rfl HRS.out) rfl ?_
    exact ⟨rfl, hbl⟩
  · have q : (k != 0) = true := by simp [h0]
    simp only [if_neg h0]
    clear hk
    unfold zeroC at *
    go_enter Try.func24, Try.ntmps24
    go_wp2_with ((with_reducible show wpList _ _ _ _ _ _); refine arm_load rfl (.tmp 1) 27 rfl rfl HLD.out ?_)
    refine Calls.mono (HC.out _) ?_
    rintro e w2 ⟨rfl, hb2⟩
    obtain ⟨w3, hst, hld, hbl, _⟩ := HSL.out w2 (HS.out.on hb2)
    have HST : Hid _ := hst
    have HRS : Hid _ := hld
    clear hb2 HC HLD HS HSL h5 hst hld
    go_wp2_with ((with_reducible show wpList _ _ _ _ _ _); refine arm_store rfl (.tmp 2) _ 27 rfl rfl rfl HST.out ?_)
    refine bodyPost_ret (res2 rfl rfl HRS.out) rfl ?_
    exact ⟨rfl, hbl⟩

end Go.Proofs.Ytmoogfdmlbalbaa
