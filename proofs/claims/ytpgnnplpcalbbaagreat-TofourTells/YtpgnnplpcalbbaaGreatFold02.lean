/-
  The contracts of package sum's iterators: words gives the words of the bytes of its parts, turned gives each with its bits turned.
  The contracts of package sum's turned, words, add and total.
  The contracts of package sum's Fold, Of, paired, Update, Neutral, Alike.
-/
import Derived.Test.YtpgnnplpcalbbaaGreatFold01
import Derived.Test.YtpgnnplpcalbbaaGreatProg
set_option linter.unusedVariables false
set_option linter.unusedSimpArgs false
namespace Go.Proofs.YtpgnnplpcalbbaaGreat
open Go Go.RowKit Go.Shelf
attribute [local go_sem] Oper.semAt_some
def wordsV (f : List Int) : List Value := (wordsL f).map (fun z => .int .u16 z)
theorem wordsV_at (f : List Int) (k : Nat) (h : 2 * k < f.length) : (wordsV f)[k]? = some (.int .u16 (wd f k)) := by
  rw [wordsV, List.getElem?_map, wordsL_at f k h]; rfl
/-- The slice value v holds the bytes zs, in a block below n₀. -/
structure BytesAt (n₀ : Nat) (W : World) (v : Value) (zs : List Int) : Prop where
  fit : Fit zs
  len : zs.length ≤ 140737488351232
  val : ∃ a cap, v = .slice a zs.length cap ∧ (zs.length = 0 ∨ ∃ b off, a = some ⟨b, off, none⟩ ∧ b < n₀ ∧ ∀ j, j < zs.length → W.cell? ⟨b, off + j, none⟩ = some (.int .u8 (zs[j]?.getD 0)))
theorem BytesAt.below {n₀ : Nat} {A B : World} {v : Value} {zs : List Int} (h : BytesAt n₀ A v zs) (hb : Below n₀ A B) : BytesAt n₀ B v zs := by
  obtain ⟨h1, h2, a, cap, hv, hz⟩ := h
  refine ⟨h1, h2, a, cap, hv, hz.imp id ?_⟩
  rintro ⟨b, off, rfl, hlt, hc⟩
  exact ⟨b, off, rfl, hlt, fun j hj => (hb.cell (p := ⟨b, off + j, none⟩) hlt).trans (hc j hj)⟩
/-- The slice value v holds the parts ps. -/
structure PartsAt (n₀ : Nat) (W : World) (v : Value) (ps : List (List Int)) : Prop where
  len : ps.length ≤ 140737488351232
  val : ∃ a cap, v = .slice a ps.length cap ∧ (ps.length = 0 ∨ ∃ b off, a = some ⟨b, off, none⟩ ∧ b < n₀ ∧ ∀ j, j < ps.length → ∃ u, W.cell? ⟨b, off + j, none⟩ = some u ∧ BytesAt n₀ W u (ps[j]?.getD []))
theorem PartsAt.below {n₀ : Nat} {A B : World} {v : Value} {ps : List (List Int)} (h : PartsAt n₀ A v ps) (hb : Below n₀ A B) : PartsAt n₀ B v ps := by
  obtain ⟨h2, a, cap, hv, hz⟩ := h
  refine ⟨h2, a, cap, hv, hz.imp id ?_⟩
  rintro ⟨b, off, rfl, hlt, hc⟩
  refine ⟨b, off, rfl, hlt, fun j hj => ?_⟩
  obtain ⟨u, hu, hbu⟩ := hc j hj
  exact ⟨u, (hb.cell (p := ⟨b, off + j, none⟩) hlt).trans hu, hbu.below hb⟩
theorem PartsAt.fit {n₀ : Nat} {A : World} {v : Value} {ps : List (List Int)} (h : PartsAt n₀ A v ps) : Fit ps.flatten := by
  obtain ⟨_, a, cap, _, hz⟩ := h
  intro z hz'
  obtain ⟨zs, hm, hin⟩ := List.mem_flatten.1 hz'
  obtain ⟨j, hj, rfl⟩ := List.getElem_of_mem hm
  rcases hz with hz | ⟨b, off, _, _, hc⟩
  · omega
  · obtain ⟨u, _, hf, _⟩ := hc j hj
    exact hf z (by simpa [hj] using hin)
/-- What words' closure holds when p bytes of f have come: an odd byte waits. -/
def St (f : List Int) (p : Nat) (h t : Value) : Prop :=
  (p % 2 = 0 ∧ t = .bool false ∧ ∃ z, h = .int .u16 z) ∨ (p % 2 = 1 ∧ t = .bool true ∧ h = .int .u16 (f[p - 1]?.getD 0 * 256))
set_option maxRecDepth 100000 in
set_option maxHeartbeats 1000000 in
theorem words1_gives (Bp : Nat) (v : Value) (ps : List (List Int)) (w : World) (hlB : Bp < w.heap.size) (hBp : w.cell? ⟨Bp, 0, none⟩ = some v) (hp : PartsAt w.heap.size w v ps) :
    Gives Tryz.prog 273 #[.pointer (some ⟨Bp, 0, none⟩)] (wordsV ps.flatten) w := by
  intro l J W hW hJ hY h0 n
  refine callsIn_wide.2 ((callsIn_wide (n := 9)).1 ?_)
  have hBp' : W.cell? ⟨Bp, 0, none⟩ = some v := (hW.cell (p := ⟨Bp, 0, none⟩) hlB).trans hBp
  have hFit := hp.fit
  obtain ⟨hlen, a, cap, rfl, hz⟩ := hp
  have hpa := pre_all ps
  have hfa := flat_at ps
  have hps := pre_succ ps
  generalize hN : ps.length = N at *
  generalize hf : ps.flatten = f at *
  clear hf hN
  have HA : Hid (∀ (k j : Nat), k < N → j < (ps[k]?.getD []).length → f[pre ps k + j]? = (ps[k]?.getD [])[j]?) := hfa
  have HP : Hid (∀ (k : Nat), k < N → pre ps (k + 1) = pre ps k + (ps[k]?.getD []).length) := hps
  have HL : Hid (pre ps N = f.length) := hpa
  clear hfa hps hpa
  refine callsIn_of_wp Tryz.func273 rfl trivial ?_ rfl
  simp only [Tryz.ntmps273, List.size_toArray, List.length_cons, List.length_nil, Nat.reduceAdd, Nat.reduceSub, Array.replicate_succ, Array.replicate_zero, List.push_toArray, List.append_toArray, List.nil_append, List.cons_append]
  gi_wp2
  gi_loopw [3, 4, 11] (fun h t i wr => ∃ k : Nat, k ≤ N ∧ i = .int .i64 k ∧ St f (pre ps k) h t ∧ J (pre ps k / 2) wr ∧ Below w.heap.size w wr) (fun _ _ i _ => N - (intOf i).toNat)
  case atStart => exact ⟨0, Nat.zero_le _, rfl, .inl ⟨by simp [pre_zero], rfl, _, rfl⟩, by simpa [pre_zero] using h0, hW⟩
  case round =>
    obtain ⟨k, hk, rfl, hst, hj, hb⟩ := hrel
    by_cases hlt : k < N
    · rcases hz with hz | ⟨b, off, rfl, hbn, hcell⟩
      · omega
      obtain ⟨u, hu, hfit, hzl, a2, cap2, rfl, hz2⟩ := hcell k hlt
      have hu' : wr.cell? ⟨b, off + k, none⟩ = some (.slice a2 (ps[k]?.getD []).length cap2) := (hb.cell (p := ⟨b, off + k, none⟩) hbn).trans hu
      have hP := HP.out k hlt
      have hA := fun j => HA.out k j hlt
      clear HP HA HL hcell hu
      generalize ps[k]?.getD [] = zs at *
      have HP : Hid (pre ps (k + 1) = pre ps k + zs.length) := hP
      have HA : Hid (∀ j : Nat, j < zs.length → f[pre ps k + j]? = zs[j]?) := hA
      clear hP hA
      generalize pre ps k = p at *
      gi_wp2
      gi_loopw [3, 4, 17] (fun h t i wx => ∃ j : Nat, j ≤ zs.length ∧ i = .int .i64 j ∧ St f (p + j) h t ∧ J ((p + j) / 2) wx ∧ Below w.heap.size w wx) (fun _ _ i _ => zs.length - (intOf i).toNat)
      case atStart => exact ⟨0, Nat.zero_le _, rfl, hst, hj, hb⟩
      case round =>
        clear hst hj hb hu'
        obtain ⟨j, hjl, rfl, hst, hj, hb⟩ := hrel
        by_cases hjt : j < zs.length
        · rcases hz2 with hz2 | ⟨b2, off2, rfl, hb2, hc2⟩
          · omega
          have hcj := (hb.cell (p := ⟨b2, off2 + j, none⟩) hb2).trans (hc2 j hjt)
          have hfj := hfit.at j
          have hpl : p + j < f.length := by
            have e : f[p + j]? = some zs[j] := by rw [HA.out j hjt]; simp [hjt]
            exact (List.getElem?_eq_some_iff.1 e).1
          have hfp : f[p + j]?.getD 0 = zs[j]?.getD 0 := by rw [HA.out j hjt]
          clear hc2 hfit
          generalize zs[j]?.getD 0 = c at *
          have HF : Hid (f[p + j]?.getD 0 = c) := hfp
          clear hfp
          rcases hst with ⟨hp2, rfl, z, rfl⟩ | ⟨hp2, rfl, rfl⟩
          · gi_wp2
            refine ⟨⟨j + 1, by omega, by simp, .inr ⟨by omega, rfl, ?_⟩, ?_, hb⟩, by simp [intOf]; omega⟩
            · rw [show p + (j + 1) - 1 = p + j from by omega, HF.out]
            · rw [show (p + (j + 1)) / 2 = (p + j) / 2 from by omega]; exact hj
          · have hx : (wordsV f)[(p + j) / 2]? = some (.int .u16 (bits BinOp.or IntKind.u16 (f[p + j - 1]?.getD 0 * 256) c)) := by
              rw [or_word _ c (hFit.at _).1 (hFit.at _).2 hfj.1 hfj.2, wordsV_at f _ (by omega), wd, show 2 * ((p + j) / 2) = p + j - 1 from by omega, show p + j - 1 + 1 = p + j from by omega, HF.out]
            generalize f[p + j - 1]?.getD 0 * 256 = d at *
            obtain ⟨fn, tmps, assign, body, hy, hR⟩ := hY _ _ wr hx hj (9 - 1)
            clear hx
            gi_wp2
            refine hR.mono ?_
            rintro e W3 ⟨rfl, hj3, hk3⟩
            gi_wp2
            refine ⟨⟨j + 1, by omega, by simp, .inl ⟨by omega, rfl, _, rfl⟩, ?_, hb.trans hk3.below⟩, by simp [intOf]; omega⟩
            rw [show (p + (j + 1)) / 2 = (p + j) / 2 + 1 from by omega]; exact hj3
        · obtain rfl : j = zs.length := by omega
          gi_wp2
          refine ⟨⟨k + 1, by omega, by simp, ?_, ?_, hb⟩, by simp [intOf]; omega⟩
          · rw [HP.out]; exact hst
          · rw [HP.out]; exact hj
    · obtain rfl : k = N := by omega
      rw [HL.out] at hst hj
      rcases hst with ⟨hp2, rfl, z, rfl⟩ | ⟨hp2, rfl, rfl⟩
      · gi_wp2
        go_end0
        exact ⟨⟨_, rfl⟩, by rw [wordsV, List.length_map, wordsL_length, show (f.length + 1) / 2 = f.length / 2 from by omega]; exact hj⟩
      · have hx : (wordsV f)[f.length / 2]? = some (.int .u16 (f[f.length - 1]?.getD 0 * 256)) := by
          rw [wordsV_at f _ (by omega), wd, show 2 * (f.length / 2) = f.length - 1 from by omega, show f.length - 1 + 1 = f.length from by omega]; simp
        generalize hc : f[f.length - 1]?.getD 0 * 256 = c at *
        obtain ⟨fn, tmps, assign, body, hy, hR⟩ := hY _ _ wr hx hj (9 - 1)
        clear hc hx
        gi_wp2
        refine hR.mono ?_
        rintro e W3 ⟨rfl, hj3, _⟩
        gi_wp2
        go_end0
        exact ⟨⟨_, rfl⟩, by rw [wordsV, List.length_map, wordsL_length, show (f.length + 1) / 2 = f.length / 2 + 1 from by omega]; exact hj3⟩
end Go.Proofs.YtpgnnplpcalbbaaGreat
namespace Go.Proofs.YtpgnnplpcalbbaaGreat
open Go Go.RowKit Go.Shelf
attribute [local go_sem] Oper.semAt_some
theorem boxed_stays {W W' : World} {B : Nat} {t : TypeId} {v : Value} (h : Boxed W B t v) (e : W'.heap[B]? = W.heap[B]?) : Boxed W' B t v := e.trans h
set_option maxRecDepth 100000 in
set_option maxHeartbeats 1000000 in
theorem turned1_gives (Bt g : Nat) (lb : Array Value) (eg : ∀ args w, (callFunc g args).run Tryz.prog w = .ok (.enter g args) w) (xs : List Int) (hxs : ∀ z ∈ xs, 0 ≤ z ∧ z ≤ 65535) (w : World) (hlB : Bt < w.heap.size)
    (hBt : w.cell? ⟨Bt, 0, none⟩ = some (.func (.func g) #[] lb)) (hg : Gives Tryz.prog g lb (xs.map (fun z => .int .u16 z)) w) :
    Gives Tryz.prog 272 #[.pointer (some ⟨Bt, 0, none⟩)] (xs.map (fun z => .int .u16 (65535 - z))) w := by
  intro l J W hW hJ hY h0 n
  refine callsIn_wide.2 ((callsIn_wide (n := 9)).1 ?_)
  have hBt' : W.cell? ⟨Bt, 0, none⟩ = some (.func (.func g) #[] lb) := (hW.cell (p := ⟨Bt, 0, none⟩) hlB).trans hBt
  have hsz := hW.size
  have hlt : Bt < W.heap.size := by omega
  refine callsIn_of_wp_marks Tryz.func272 rfl trivial ?_ rfl
  simp only [Tryz.ntmps272, List.size_toArray, List.length_cons, List.length_nil, Nat.reduceAdd, Nat.reduceSub, Array.replicate_succ, Array.replicate_zero, List.push_toArray, List.append_toArray, List.nil_append, List.cons_append]
  gi_wp2
  obtain ⟨W0, hW0⟩ : ∃ W0, W.alloc (.cells #[.func (.yield l) #[] #[]] 308) = W0 := ⟨_, rfl⟩
  have hs0 : W0.heap.size = W.heap.size + 1 := by rw [← hW0]; simp
  have hB0 : Boxed W0 W.heap.size 308 (.func (.yield l) #[] #[]) := by rw [← hW0]; exact Boxed.new W _ _
  have hJ0 : J 0 W0 := by rw [← hW0]; exact hJ.alloc _ h0
  have hb0 : Below w.heap.size w W0 := by rw [← hW0]; exact hW.alloc hsz _
  rw [hW0]
  clear hW0
  refine wpIn_range (gf := g) (lb := lb) rfl eg hg hb0 rfl (fun k X => J k X ∧ Boxed X W.heap.size 308 (.func (.yield l) #[] #[]))
    (OwnFrom.and (OwnFrom.later hJ (by omega)) (Own.from (boxed_own _ _ (fun _ => .func (.yield l) #[] #[])) _)) ⟨hJ0, hB0⟩
    (fun x => { tmps := #[.func (.yield l) #[] #[], .pointer (some ⟨Bt, 0, none⟩), .pointer (some ⟨W.heap.size, 0, none⟩), x, .func (.func g) #[] lb, x, undef, undef, undef, undef, undef], defers := [] }) ?assign ?body ?done
  case assign =>
    intro l' m x X K hK
    gi_wp2
    exact hK
  case body =>
    rintro l' m k x X hx hle ⟨hj, hbx⟩
    have hcx := hbx.cell
    rw [List.getElem?_map] at hx
    obtain ⟨z, hz, rfl⟩ := Option.map_eq_some_iff.1 hx
    have hz2 := hxs z (List.mem_of_getElem? hz)
    have hx' : (xs.map (fun z => Value.int .u16 (65535 - z)))[k]? = some (.int .u16 (65535 - z)) := by rw [List.getElem?_map, hz]; rfl
    obtain ⟨fn, tmps, assign, body, hy, hR⟩ := hY k _ X hx' hj (m - 1)
    clear hx hx' hz
    have hnot := not_word z hz2.1 hz2.2
    have hsg : IntKind.u16.signed = false := rfl
    gi_wp2
    refine ⟨fun h => by simp [Fence.wide] at h, (RoundIn.inRound l' hR).mono ?_⟩
    rintro e X3 ⟨rfl, hj3, hk3⟩
    gi_wp2
    exact ⟨⟨hj3, boxed_stays hbx (hk3.above _ (Nat.le_refl _) (by omega))⟩, hk3.mono (Nat.le_refl _) (by omega)⟩
  case done =>
    rintro D X hD ⟨hj, _⟩ hK
    gi_wp2
    refine ⟨by simp, .inl ⟨_, _, rfl, run_takeDeferred hK, ?_⟩⟩
    refine ⟨_, results_none rfl _ _ _, ⟨_, rfl⟩, ?_⟩
    have := hJ.putObj (.deferred none) hj (by omega) hK rfl
    simpa using this
set_option maxHeartbeats 400000 in
theorem words_calls (a : Option Addr) (len cap : Nat) (w : World) :
    Calls Tryz.prog 258 #[.slice a len cap] w fun e w' => e = .returned (.func (.func 273) #[] #[.pointer (some ⟨w.heap.size, 0, none⟩)]) ∧ w' = w.alloc (.cells #[.slice a len cap] 127) := by
  go_enter Tryz.func258, Tryz.ntmps258
  go_wp2
  go_ret
  exact ⟨rfl, rfl⟩
set_option maxHeartbeats 400000 in
theorem turned_calls (g : Nat) (lb : Array Value) (w : World) :
    Calls Tryz.prog 257 #[.func (.func g) #[] lb] w fun e w' => e = .returned (.func (.func 272) #[] #[.pointer (some ⟨w.heap.size, 0, none⟩)]) ∧ w' = w.alloc (.cells #[.func (.func g) #[] lb] 293) := by
  go_enter Tryz.func257, Tryz.ntmps257
  go_wp2
  go_ret
  exact ⟨rfl, rfl⟩
set_option maxHeartbeats 400000 in
theorem add_calls (a b : Int) (ha : 0 ≤ a ∧ a ≤ 65535) (hb : 0 ≤ b ∧ b ≤ 65535) (w : World) :
    Calls Tryz.prog 271 #[.int .u16 a, .int .u16 b] w fun e w' => e = .returned (.int .u16 (addW a b)) ∧ w' = w := by
  go_enter Tryz.func271, Tryz.ntmps271
  go_wp2
  go_ret
  exact ⟨congrArg (fun z => Ending.returned (.int .u16 z)) (add_word a b ha hb), rfl⟩
set_option maxRecDepth 100000 in
set_option maxHeartbeats 1000000 in
theorem total_calls (s : Int) (hs : 0 ≤ s ∧ s ≤ 65535) (g : Nat) (lb : Array Value) (eg : ∀ args w, (callFunc g args).run Tryz.prog w = .ok (.enter g args) w) (xs : List Int) (hxs : Words xs) (w : World)
    (hg : Gives Tryz.prog g lb (xs.map (fun z => .int .u16 z)) w) :
    Calls Tryz.prog 256 #[.int .u16 s, .func (.func g) #[] lb] w fun e w' => e = .returned (.int .u16 (sumW s xs)) ∧ Below w.heap.size w w' := by
  refine (callsIn_wide (n := 9)).1 ?_
  refine callsIn_of_wp_marks Tryz.func256 rfl trivial ?_ rfl
  simp only [Tryz.ntmps256, List.size_toArray, List.length_cons, List.length_nil, Nat.reduceAdd, Nat.reduceSub, Array.replicate_succ, Array.replicate_zero, List.push_toArray, List.append_toArray, List.nil_append, List.cons_append]
  gi_wp2
  obtain ⟨W0, hW0⟩ : ∃ W0, w.alloc (.cells #[.int .u16 s] 22) = W0 := ⟨_, rfl⟩
  have hs0 : W0.heap.size = w.heap.size + 1 := by rw [← hW0]; simp
  have hB0 : Boxed W0 w.heap.size 22 (.int .u16 s) := by rw [← hW0]; exact Boxed.new w _ _
  have hb0 : Below w.heap.size w W0 := by rw [← hW0]; exact (Below.refl _ w).alloc (Nat.le_refl _) _
  rw [hW0]
  clear hW0
  refine wpIn_range (gf := g) (lb := lb) rfl eg hg hb0 rfl (fun k X => Boxed X w.heap.size 22 (.int .u16 (sumW s (xs.take k))) ∧ Below w.heap.size w X)
    (OwnFrom.and (Own.from (boxed_own _ _ (fun k => .int .u16 (sumW s (xs.take k)))) _) (ownFrom_below (Nat.le_refl _) (by omega))) ⟨hB0, hb0⟩
    (fun x => { tmps := #[.int .u16 s, .func (.func g) #[] lb, .pointer (some ⟨w.heap.size, 0, none⟩), undef, .int .u16 0, x, .func (.func g) #[] lb, x, undef, undef, undef, undef], defers := [] }) ?assign ?body ?done
  case assign =>
    intro l' m x X K hK
    gi_wp2
    exact hK
  case body =>
    rintro l' m k x X hx hle ⟨hbx, hb⟩
    have hcx := hbx.cell
    have hfx := hbx.frozen
    rw [List.getElem?_map] at hx
    obtain ⟨z, hz, rfl⟩ := Option.map_eq_some_iff.1 hx
    have hz2 := hxs z (List.mem_of_getElem? hz)
    have ht2 := sumW_range (xs.take k) s hs (fun z hz => hxs z (List.mem_of_mem_take hz))
    have hsn := sumW_snoc s xs k z hz
    clear hx hz
    generalize sumW s (xs.take k) = t at *
    have HS : Hid (sumW s (xs.take (k + 1)) = addW t z) := hsn
    clear hsn
    have hadd : ∀ m' X', CallsIn (Fence.wide.inRound l') m' Tryz.prog 271 #[.int .u16 t, .int .u16 z] X' fun e w' => e = .returned (.int .u16 (addW t z)) ∧ w' = X' :=
      fun m' X' => CallsIn.inRound l' (callsIn_wide.2 (add_calls t z ht2 hz2 X'))
    gi_wp2_with fail
    refine ⟨trivial, fun h => by simp [Fence.wide] at h, (hadd _ _).mono ?_⟩
    rintro e X' ⟨rfl, rfl⟩
    gi_wp2
    have hset := hbx.set (.int .u16 (addW t z))
    refine ⟨⟨?_, hb.setCell (p := ⟨w.heap.size, 0, none⟩) (Nat.le_refl _) _⟩, Kept.setCell _ _ _ (Nat.le_refl _) (by omega)⟩
    rw [HS.out]; exact hset
  case done =>
    rintro D X hD ⟨hbx, hb⟩ hK
    have hcx := hbx.cell
    have hfx := hbx.frozen
    gi_wp2
    refine ⟨by simp, .inl ⟨_, _, rfl, run_takeDeferred hK, ?_⟩⟩
    exact ⟨_, results_tmp rfl _ _ _, rfl, hb.trans (belowK_b (w := w) (Nat.le_refl _) X D _ _ (by omega) hK rfl rfl)⟩
end Go.Proofs.YtpgnnplpcalbbaaGreat
namespace Go.Proofs.YtpgnnplpcalbbaaGreat
open Go Go.RowKit Go.Shelf
theorem BytesAt.later {w W : World} {v : Value} {zs : List Int} (h : BytesAt w.heap.size w v zs) (hb : Below w.heap.size w W) : BytesAt W.heap.size W v zs := by
  obtain ⟨h1, h2, a, cap, hv, hz⟩ := h.below hb
  refine ⟨h1, h2, a, cap, hv, hz.imp id ?_⟩
  rintro ⟨b, off, rfl, hlt, hc⟩
  exact ⟨b, off, rfl, Nat.lt_of_lt_of_le hlt hb.size, hc⟩
theorem PartsAt.later {w W : World} {v : Value} {ps : List (List Int)} (h : PartsAt w.heap.size w v ps) (hb : Below w.heap.size w W) : PartsAt W.heap.size W v ps := by
  obtain ⟨h2, a, cap, hv, hz⟩ := h
  refine ⟨h2, a, cap, hv, hz.imp id ?_⟩
  rintro ⟨b, off, rfl, hlt, hc⟩
  refine ⟨b, off, rfl, Nat.lt_of_lt_of_le hlt hb.size, fun j hj => ?_⟩
  obtain ⟨u, hu, hbu⟩ := hc j hj
  exact ⟨u, (hb.cell (p := ⟨b, off + j, none⟩) hlt).trans hu, hbu.later hb⟩
theorem wordsL_words {f : List Int} (h : Fit f) : Words (wordsL f) := by
  intro z hz
  obtain ⟨k, _, rfl⟩ := List.mem_map.1 hz
  have h1 := h.at (2 * k)
  have h2 := h.at (2 * k + 1)
  unfold wd; omega
theorem eg_words : ∀ args w, (callFunc 273 args).run Tryz.prog w = .ok (.enter 273 args) w := enters_of Tryz.func273 (by kernel_rfl) rfl
theorem eg_turned : ∀ args w, (callFunc 272 args).run Tryz.prog w = .ok (.enter 272 args) w := enters_of Tryz.func272 (by kernel_rfl) rfl
/-- words, called at parts: its closure gives the words of their bytes. -/
theorem words_made (a : Option Addr) (len cap : Nat) (ps : List (List Int)) (w : World) (hp : PartsAt w.heap.size w (.slice a len cap) ps) :
    Calls Tryz.prog 258 #[.slice a len cap] w fun e w' => ∃ B, e = .returned (.func (.func 273) #[] #[.pointer (some ⟨B, 0, none⟩)]) ∧ Below w.heap.size w w' ∧ Gives Tryz.prog 273 #[.pointer (some ⟨B, 0, none⟩)] ((wordsL ps.flatten).map (fun z => .int .u16 z)) w' := by
  refine (words_calls a len cap w).mono ?_
  rintro e w' ⟨rfl, rfl⟩
  have hb : Below w.heap.size w (w.alloc (.cells #[.slice a len cap] 127)) := (Below.refl _ w).alloc (Nat.le_refl _) _
  exact ⟨_, rfl, hb, words1_gives w.heap.size _ ps _ (by simp) (Boxed.new w _ _).cell (hp.later hb)⟩
/-- turned, called at an iterator. -/
theorem turned_made (g : Nat) (lb : Array Value) (eg : ∀ args w, (callFunc g args).run Tryz.prog w = .ok (.enter g args) w) (xs : List Int) (hxs : Words xs) (w : World) (hg : Gives Tryz.prog g lb (xs.map (fun z => .int .u16 z)) w) :
    Calls Tryz.prog 257 #[.func (.func g) #[] lb] w fun e w' => ∃ B, e = .returned (.func (.func 272) #[] #[.pointer (some ⟨B, 0, none⟩)]) ∧ Below w.heap.size w w' ∧ Gives Tryz.prog 272 #[.pointer (some ⟨B, 0, none⟩)] ((xs.map (fun z => 65535 - z)).map (fun z => .int .u16 z)) w' := by
  refine (turned_calls g lb w).mono ?_
  rintro e w' ⟨rfl, rfl⟩
  have hb : Below w.heap.size w (w.alloc (.cells #[.func (.func g) #[] lb] 293)) := (Below.refl _ w).alloc (Nat.le_refl _) _
  refine ⟨_, rfl, hb, ?_⟩
  have := turned1_gives w.heap.size g lb eg xs hxs _ (by simp) (Boxed.new w _ _).cell (hg.later hb)
  rw [List.map_map]
  exact this
/-- A new row of parts. -/
theorem parts_new (w : World) (us : Array Value) (t : TypeId) (ps : List (List Int)) (len cap : Nat) (hl : len = ps.length) (hs : len ≤ 1000) (h : ∀ j, j < ps.length → ∃ u, us[j]? = some u ∧ BytesAt w.heap.size w u (ps[j]?.getD [])) :
    PartsAt (w.alloc (.cells us t)).heap.size (w.alloc (.cells us t)) (.slice (some ⟨w.heap.size, 0, none⟩) len cap) ps := by
  have hb : Below w.heap.size w (w.alloc (.cells us t)) := (Below.refl _ w).alloc (Nat.le_refl _) _
  refine ⟨by omega, _, _, by rw [hl], .inr ⟨_, _, rfl, by simp, fun j hj => ?_⟩⟩
  obtain ⟨u, hu, hbu⟩ := h j hj
  refine ⟨u, ?_, hbu.later hb⟩
  have hn := World.alloc_heap_new w (.cells us t)
  simp only [World.cell?]
  rw [hn]
  simpa using hu
theorem parts_one (w : World) (u : Value) (t : TypeId) (zs : List Int) (h : BytesAt w.heap.size w u zs) :
    PartsAt (w.alloc (.cells #[u] t)).heap.size (w.alloc (.cells #[u] t)) (.slice (some ⟨w.heap.size, 0, none⟩) 1 1) [zs] :=
  parts_new w #[u] t [zs] 1 1 rfl (by decide) (fun j hj => by
    match j, hj with
    | 0, _ => exact ⟨u, rfl, h⟩)
theorem parts_two (w : World) (u1 u2 : Value) (t : TypeId) (z1 z2 : List Int) (h1 : BytesAt w.heap.size w u1 z1) (h2 : BytesAt w.heap.size w u2 z2) :
    PartsAt (w.alloc (.cells #[u1, u2] t)).heap.size (w.alloc (.cells #[u1, u2] t)) (.slice (some ⟨w.heap.size, 0, none⟩) 2 2) [z1, z2] :=
  parts_new w #[u1, u2] t [z1, z2] 2 2 rfl (by decide) (fun j hj => by
    match j, hj with
    | 0, _ => exact ⟨u1, rfl, h1⟩
    | 1, _ => exact ⟨u2, rfl, h2⟩)
theorem parts_three (w : World) (u1 u2 u3 : Value) (t : TypeId) (z1 z2 z3 : List Int) (h1 : BytesAt w.heap.size w u1 z1) (h2 : BytesAt w.heap.size w u2 z2) (h3 : BytesAt w.heap.size w u3 z3) :
    PartsAt (w.alloc (.cells #[u1, u2, u3] t)).heap.size (w.alloc (.cells #[u1, u2, u3] t)) (.slice (some ⟨w.heap.size, 0, none⟩) 3 3) [z1, z2, z3] :=
  parts_new w #[u1, u2, u3] t [z1, z2, z3] 3 3 rfl (by decide) (fun j hj => by
    match j, hj with
    | 0, _ => exact ⟨u1, rfl, h1⟩
    | 1, _ => exact ⟨u2, rfl, h2⟩
    | 2, _ => exact ⟨u3, rfl, h3⟩)
theorem parts_four (w : World) (u1 u2 u3 u4 : Value) (t : TypeId) (z1 z2 z3 z4 : List Int) (h1 : BytesAt w.heap.size w u1 z1) (h2 : BytesAt w.heap.size w u2 z2) (h3 : BytesAt w.heap.size w u3 z3) (h4 : BytesAt w.heap.size w u4 z4) :
    PartsAt (w.alloc (.cells #[u1, u2, u3, u4] t)).heap.size (w.alloc (.cells #[u1, u2, u3, u4] t)) (.slice (some ⟨w.heap.size, 0, none⟩) 4 4) [z1, z2, z3, z4] :=
  parts_new w #[u1, u2, u3, u4] t [z1, z2, z3, z4] 4 4 rfl (by decide) (fun j hj => by
    match j, hj with
    | 0, _ => exact ⟨u1, rfl, h1⟩
    | 1, _ => exact ⟨u2, rfl, h2⟩
    | 2, _ => exact ⟨u3, rfl, h3⟩
    | 3, _ => exact ⟨u4, rfl, h4⟩)
/-- words, called at one part. -/
theorem words_one (u : Value) (zs : List Int) (w : World) (h : BytesAt w.heap.size w u zs) :
    Calls Tryz.prog 258 #[.slice (some ⟨w.heap.size, 0, none⟩) 1 1] (w.alloc (.cells #[u] 25)) fun e w' => ∃ B, e = .returned (.func (.func 273) #[] #[.pointer (some ⟨B, 0, none⟩)]) ∧ Below w.heap.size w w' ∧ Gives Tryz.prog 273 #[.pointer (some ⟨B, 0, none⟩)] ((wordsL zs).map (fun z => .int .u16 z)) w' := by
  refine (words_made _ _ _ [zs] _ (parts_one w u _ zs h)).mono ?_
  rintro e w' ⟨B, rfl, hb, hg⟩
  refine ⟨B, rfl, ((Below.refl _ w).alloc (Nat.le_refl _) _).trans (hb.mono (by simp)), ?_⟩
  simpa using hg
set_option maxHeartbeats 400000 in
theorem fold_calls (a : Option Addr) (len cap : Nat) (ps : List (List Int)) (w : World) (hp : PartsAt w.heap.size w (.slice a len cap) ps) :
    Calls Tryz.prog 260 #[.slice a len cap] w fun e w' => e = .returned (.int .u16 (sumW 0 (wordsL ps.flatten))) ∧ Below w.heap.size w w' := by
  have hw := wordsL_words hp.fit
  go_enter Tryz.func260, Tryz.ntmps260
  go_wp2_with fail
  refine (words_made a len cap ps w hp).mono ?_
  rintro e w' ⟨B, rfl, hb, hg⟩
  go_wp2_with fail
  refine (total_calls 0 (by decide) _ _ eg_words _ hw w' hg).mono ?_
  rintro e w2 ⟨rfl, hb2⟩
  go_wp2
  go_ret
  exact ⟨rfl, hb.trans (hb2.mono hb.size)⟩
set_option maxHeartbeats 400000 in
theorem of_calls (a : Option Addr) (len cap : Nat) (ps : List (List Int)) (w : World) (hp : PartsAt w.heap.size w (.slice a len cap) ps) :
    Calls Tryz.prog 228 #[.slice a len cap] w fun e w' => e = .returned (.int .u16 (65535 - sumW 0 (wordsL ps.flatten))) ∧ Below w.heap.size w w' := by
  have hr := sumW_range (wordsL ps.flatten) 0 (by decide) (wordsL_words hp.fit)
  have hnot := not_word (sumW 0 (wordsL ps.flatten)) hr.1 hr.2
  have hsg : IntKind.u16.signed = false := rfl
  go_enter Tryz.func228, Tryz.ntmps228
  go_wp2_with fail
  refine (fold_calls a len cap ps w hp).mono ?_
  rintro e w' ⟨rfl, hb⟩
  go_wp2
  go_ret
  exact ⟨rfl, hb⟩
theorem ret_bool {a b : Bool} (h : a = b) : Ending.returned (.bool a) = .returned (.bool b) := by rw [h]
set_option maxHeartbeats 400000 in
theorem paired_calls (a a' : Option Addr) (n n' cap cap' : Nat) (w : World) (hn : n ≤ 140737488351232) (hn' : n' ≤ 140737488351232) :
    Calls Tryz.prog 255 #[.slice a n cap, .slice a' n' cap'] w fun e w' => e = .returned (.bool (decide (n = n' ∧ n % 2 = 0))) ∧ w' = w := by
  by_cases h : n = n'
  · subst h
    go_enter Tryz.func255, Tryz.ntmps255
    go_wp2
    go_ret
    exact ⟨ret_bool (by rw [Bool.eq_iff_iff]; simp; omega), rfl⟩
  · have h1 : ((n : Int) == (n' : Int)) = false := beq_eq_false_iff_ne.2 (by omega)
    go_enter Tryz.func255, Tryz.ntmps255
    go_wp2
    go_ret
    exact ⟨ret_bool (by simp [h]), rfl⟩
theorem paired_yes (a a' : Option Addr) (n cap cap' : Nat) (w : World) (hn : n ≤ 140737488351232) (h : n % 2 = 0) :
    Calls Tryz.prog 255 #[.slice a n cap, .slice a' n cap'] w fun e w' => e = .returned (.bool true) ∧ w' = w :=
  (paired_calls a a' n n cap cap' w hn hn).mono (fun _ _ hr => ⟨hr.1.trans (ret_bool (decide_eq_true ⟨rfl, h⟩)), hr.2⟩)
theorem paired_no (a a' : Option Addr) (n n' cap cap' : Nat) (w : World) (hn : n ≤ 140737488351232) (hn' : n' ≤ 140737488351232) (h : ¬ (n = n' ∧ n % 2 = 0)) :
    Calls Tryz.prog 255 #[.slice a n cap, .slice a' n' cap'] w fun e w' => e = .returned (.bool false) ∧ w' = w :=
  (paired_calls a a' n n' cap cap' w hn hn').mono (fun _ _ hr => ⟨hr.1.trans (ret_bool (decide_eq_false h)), hr.2⟩)
set_option maxHeartbeats 400000 in
theorem update_none (was : Int) (a a' : Option Addr) (n n' cap cap' : Nat) (w : World) (hn : n ≤ 140737488351232) (hn' : n' ≤ 140737488351232) (h : ¬ (n = n' ∧ n % 2 = 0)) :
    Calls Tryz.prog 222 #[.int .u16 was, .slice a n cap, .slice a' n' cap'] w fun e w' => e = .returned (.tuple #[.int .u16 0, .int .i64 10]) ∧ w' = w := by
  have H : Hid (¬ (n = n' ∧ n % 2 = 0)) := h
  clear h
  go_enter Tryz.func222, Tryz.ntmps222
  go_wp2_with fail
  refine (paired_no a a' n n' cap cap' _ hn hn' H.out).mono ?_
  rintro e w' ⟨rfl, rfl⟩
  go_wp2
  go_ret2
  exact ⟨rfl, rfl⟩
set_option maxHeartbeats 400000 in
theorem update_some (was : Int) (hwas : 0 ≤ was ∧ was ≤ 65535) (a a' : Option Addr) (n cap cap' : Nat) (zs ys : List Int) (w : World) (hz : BytesAt w.heap.size w (.slice a n cap) zs) (hy : BytesAt w.heap.size w (.slice a' n cap') ys) (h2 : n % 2 = 0) :
    Calls Tryz.prog 222 #[.int .u16 was, .slice a n cap, .slice a' n cap'] w fun e w' =>
      e = .returned (.tuple #[.int .u16 (65535 - sumW (sumW (65535 - was) ((wordsL zs).map (fun z => 65535 - z))) (wordsL ys)), .int .i64 0]) ∧ Below w.heap.size w w' := by
  have hn : n ≤ 140737488351232 := by have := hz.len; obtain ⟨_, _, e, _⟩ := hz.val; cases e; exact this
  have hnot := not_word was hwas.1 hwas.2
  have hsg : IntKind.u16.signed = false := rfl
  go_enter Tryz.func222, Tryz.ntmps222
  go_wp2_with fail
  refine (paired_yes a a' n cap cap' _ hn h2).mono ?_
  rintro e w' ⟨rfl, rfl⟩
  have hw1 := wordsL_words hz.fit
  have hw2 := wordsL_words hy.fit
  have hw1' : Words ((wordsL zs).map (fun z => 65535 - z)) := turn_words hw1
  have hr1 := sumW_range _ (65535 - was) (by omega) hw1'
  have hr2 := sumW_range _ _ hr1 hw2
  have hnot2 := not_word _ hr2.1 hr2.2
  go_wp2_with fail
  refine (words_one _ zs w' hz).mono ?_
  rintro e x1 ⟨B1, rfl, hb1, hg1⟩
  go_wp2_with fail
  refine (turned_made _ _ eg_words _ hw1 x1 hg1).mono ?_
  rintro e x2 ⟨B2, rfl, hb2, hg2⟩
  go_wp2_with fail
  refine (total_calls (65535 - was) (by omega) _ _ eg_turned _ hw1' x2 hg2).mono ?_
  rintro e x3 ⟨rfl, hb3⟩
  have hb13 : Below w'.heap.size w' x3 := hb1.trans ((hb2.trans (hb3.mono hb2.size)).mono hb1.size)
  clear hb1 hb2 hb3 hg1 hg2
  go_wp2_with fail
  refine (words_one _ ys x3 (hy.later hb13)).mono ?_
  rintro e x4 ⟨B3, rfl, hb4, hg4⟩
  go_wp2_with fail
  refine (total_calls _ hr1 _ _ eg_words _ hw2 x4 hg4).mono ?_
  rintro e x5 ⟨rfl, hb5⟩
  go_wp2
  go_ret2
  exact ⟨rfl, hb13.trans ((hb4.trans (hb5.mono hb4.size)).mono hb13.size)⟩
end Go.Proofs.YtpgnnplpcalbbaaGreat
