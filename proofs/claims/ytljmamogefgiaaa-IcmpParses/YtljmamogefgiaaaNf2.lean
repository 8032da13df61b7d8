/-
  The document's Parse4 and Parse6 of package icmp; IcmpParses.
-/
import Derived.Test.YtljmamogefgiaaaNf1
namespace Go.Proofs.Ytljmamogefgiaaa
open Go Go.RowKit Go.Shelf
set_option linter.unusedVariables false
set_option linter.unusedSimpArgs false

def szE (n : Nat) : Int := if n < 8 then 70 else if 65535 < n then 2 else 0
theorem size_calls (a : Option Addr) (n cap : Nat) (w : World) (hn : n ≤ 140737488351232) :
    Calls Try.prog 40 #[.slice a n cap] w fun e w' => e = .returned (.int .i64 (szE n)) ∧ w' = w := by
  unfold szE
  by_cases h1 : n < 8
  · rw [if_pos h1]
    go_enter Try.func40, Try.ntmps40
    go_wp2
    go_ret
    exact ⟨rfl, rfl⟩
  · rw [if_neg h1]
    by_cases h2 : 65535 < n
    · rw [if_pos h2]
      go_enter Try.func40, Try.ntmps40
      go_wp2
      go_ret
      exact ⟨rfl, rfl⟩
    · rw [if_neg h2]
      go_enter Try.func40, Try.ntmps40
      go_wp2
      go_ret
      exact ⟨rfl, rfl⟩
theorem pE_size {ph : Int → List Int} {zs : List Int} (h : szE zs.length ≠ 0) : pE ph zs = szE zs.length := by
  unfold szE pE at *
  by_cases h1 : zs.length < 8
  · rw [if_pos h1, if_pos h1]
  · rw [if_neg h1] at h
    rw [if_neg h1, if_neg h1]
    by_cases h2 : 65535 < zs.length
    · rw [if_pos h2, if_pos h2]
    · rw [if_neg h2] at h
      exact absurd rfl h
theorem szE_zero {n : Nat} (h : szE n = 0) : 8 ≤ n ∧ n ≤ 65535 := by
  unfold szE at h
  by_cases h1 : n < 8
  · rw [if_pos h1] at h
    exact absurd h (by decide)
  · rw [if_neg h1] at h
    by_cases h2 : 65535 < n
    · rw [if_pos h2] at h
      exact absurd h (by decide)
    · omega

set_option maxHeartbeats 2000000 in
set_option maxRecDepth 100000 in
theorem RParse4_any (v : Value) (zs : List Int) (w : World) (h : RowC w v zs) :
    Calls Try.prog 16 #[v] w fun e w' => ParI phN zs w e w' := by
  obtain ⟨W0, hW0⟩ : ∃ W0, w.alloc (.cells [.int .u8 0, .int .u8 0, .int .u32 0, .slice none 0 0].toArray 26) = W0 := ⟨_, rfl⟩
  have b0 := blk_new w (.cells [.int .u8 0, .int .u8 0, .int .u32 0, .slice none 0 0].toArray 26)
  have hB0 := (Below.refl w.heap.size w).alloc (Nat.le_refl _) (.cells [.int .u8 0, .int .u8 0, .int .u32 0, .slice none 0 0].toArray 26)
  rw [hW0] at b0 hB0
  have hlt0 : w.heap.size < W0.heap.size := (Array.getElem?_eq_some_iff.1 b0).1
  have HB : Hid _ := hB0
  have B0 : Hid _ := b0
  have hR := h.on hB0
  have hl := h.len
  by_cases h0 : szE zs.length = 0
  · have HP : Hid _ := Rparse_any phN (fun _ => by simp [phN]) v (.slice none 0 0) zs W0 hR (szE_zero h0).1 (szE_zero h0).2 (BytesAt.none W0)
    obtain ⟨av, cv, rfl, _⟩ := h.val
    have HSZ : Hid _ := size_calls av zs.length cv W0 hl
    rw [h0] at HSZ
    clear h b0 hB0 hR hl h0
    generalize phN = ph at *
    go_enter Try.func16, Try.ntmps16
    go_wp2_with fail
    refine Calls.mono HSZ.out ?_
    rintro _ _ ⟨rfl, rfl⟩
    go_wp2_with fail
    refine Calls.mono HP.out ?_
    rintro _ w2 ⟨c, rfl, hc, hb2⟩
    obtain ⟨w3, hst3, b3, hon3⟩ := box_store Try.sizeOf26 (blk_on B0.out hb2) rfl c hc.1.len hc.1.one
    have HST3 : Hid _ := hst3
    have B3 : Hid _ := b3
    have hs0 := HB.out.size
    have HC : Hid (MsgN w w3 c (pM ph zs)) := (hc.only (by omega) hon3).old (by omega)
    have HCL : Hid _ := hc.1.len
    have HE : Hid (Below w.heap.size w w3) := (HB.out.trans (hb2.mono HB.out.size)).trans (hon3.below (by omega))
    clear hst3 b3 hon3 hc hb2 HP hs0 hlt0
    generalize hte : pE ph zs = te at *
    have HTE : Hid _ := hte
    clear hte
    go_wp2_with ((with_reducible show wpList _ _ _ _ _ _); refine arm_store rfl (.tmp 2) (.tmp 13) 26 rfl rfl rfl HST3.out ?_)
    exact bodyPost_ret (res2t rfl rfl (agg_loadVar Try.isAgg26 Try.sizeOf26 HCL.out (CellsAt.of_blk B3.out))) rfl ⟨c, by rw [HTE.out]; rfl, HC.out, HE.out⟩
  · have HE : Hid _ := pE_size (ph := phN) h0
    obtain ⟨av, cv, rfl, _⟩ := h.val
    have HSZ : Hid _ := size_calls av zs.length cv W0 hl
    generalize hsz : szE zs.length = er at *
    have HSZE : Hid _ := hsz
    have q0 : (er != 0) = true := by simpa using h0
    have H0 : Hid _ := h0
    obtain ⟨w3, hst3, b3, hon3⟩ := box_store Try.sizeOf26 b0 rfl [.int .u8 0, .int .u8 0, .int .u32 0, .slice none 0 0] rfl (by simp [Value.oneCell'])
    have HST : Hid _ := hst3
    have B3 : Hid _ := b3
    have HX : Hid (Below w.heap.size w w3) := hB0.trans (hon3.below (Nat.le_refl _))
    clear h b0 hB0 hR hl h0 hsz hst3 b3 hon3 hlt0
    go_enter Try.func16, Try.ntmps16
    go_wp2_with fail
    refine Calls.mono HSZ.out ?_
    rintro _ _ ⟨rfl, rfl⟩
    go_wp2_with ((with_reducible show wpList _ _ _ _ _ _); refine arm_store rfl (.tmp 2) (.tmp 9) 26 rfl rfl rfl HST.out ?_)
    exact bodyPost_ret (res2t rfl rfl (agg_loadVar Try.isAgg26 Try.sizeOf26 rfl (CellsAt.of_blk B3.out))) rfl (.bad HE.out H0.out rfl HX.out)

set_option maxHeartbeats 2000000 in
set_option maxRecDepth 100000 in
theorem RParse6_any (A B : List Int) (hA : A.length = 16) (hB : B.length = 16) (fa : Fit A) (fb : Fit B) (v : Value) (zs : List Int) (w : World) (h : RowC w v zs) :
    Calls Try.prog 18 #[.agg (u8L A).toArray, .agg (u8L B).toArray, v] w fun e w' => ParI (ph6I A B) zs w e w' := by
  obtain ⟨W0, hW0⟩ : ∃ W0, ((w.alloc (.cells (u8L A).toArray 59)).alloc (.cells (u8L B).toArray 59)).alloc (.cells [.int .u8 0, .int .u8 0, .int .u32 0, .slice none 0 0].toArray 26) = W0 := ⟨_, rfl⟩
  have b0 := blk_new w (.cells (u8L A).toArray 59)
  have b1 := blk_new (w.alloc (.cells (u8L A).toArray 59)) (.cells (u8L B).toArray 59)
  have b2 := blk_new ((w.alloc (.cells (u8L A).toArray 59)).alloc (.cells (u8L B).toArray 59)) (.cells [.int .u8 0, .int .u8 0, .int .u32 0, .slice none 0 0].toArray 26)
  have b0' := blk_alloc (blk_alloc b0 (.cells (u8L B).toArray 59)) (.cells [.int .u8 0, .int .u8 0, .int .u32 0, .slice none 0 0].toArray 26)
  have b1' := blk_alloc b1 (.cells [.int .u8 0, .int .u8 0, .int .u32 0, .slice none 0 0].toArray 26)
  have hb : Below w.heap.size w (((w.alloc (.cells (u8L A).toArray 59)).alloc (.cells (u8L B).toArray 59)).alloc (.cells [.int .u8 0, .int .u8 0, .int .u32 0, .slice none 0 0].toArray 26)) := (((Below.refl _ w).alloc (Nat.le_refl _) _).alloc (by simp) _).alloc (by simp <;> omega) _
  rw [hW0] at b0' b1' b2 hb
  have s1 : (w.alloc (.cells (u8L A).toArray 59)).heap.size = w.heap.size + 1 := by simp
  have s2 : ((w.alloc (.cells (u8L A).toArray 59)).alloc (.cells (u8L B).toArray 59)).heap.size = w.heap.size + 1 + 1 := by simp
  rw [s1] at b1'
  rw [s2] at b2
  have LA : Hid _ := agg_load (t := 59) Try.isAgg59 Try.sizeOf59 (by simp [u8L, hA]) (CellsAt.of_blk b0')
  have LB : Hid _ := agg_load (t := 59) Try.isAgg59 Try.sizeOf59 (by simp [u8L, hB]) (CellsAt.of_blk b1')
  have hlt0 : w.heap.size + 1 + 1 < W0.heap.size := (Array.getElem?_eq_some_iff.1 b2).1
  have HB : Hid _ := hb
  have B0 : Hid _ := b2
  have hl := h.len
  by_cases h0 : szE zs.length = 0
  · have hsz := szE_zero h0
    have HPS : Hid (Calls Try.prog 38 #[.agg (u8L A).toArray, .agg (u8L B).toArray, .int .u8 58, .int .i64 (zs.length : Int)] W0 fun e w' => ∃ v, e = .returned (.tuple #[v, .int .i64 0]) ∧ BytesAt w'.heap.size w' v (ph6I A B (zs.length : Int)) ∧ Below W0.heap.size W0 w') := pseudo6_list_ref A B hA hB fa fb 58 _ (by decide) (by omega) W0
    have HP : Hid (∀ W hv, Below W0.heap.size W0 W → BytesAt W.heap.size W hv (ph6I A B (zs.length : Int)) → Calls Try.prog 41 #[v, hv] W fun e w' => ParI (ph6I A B) zs W e w') := fun W hv hW hh => Rparse_any (ph6I A B) (fun _ => by simp [ph6I, ph6, hA, hB]) v hv zs W (h.on (hb.trans (hW.mono hb.size))) hsz.1 hsz.2 hh
    obtain ⟨av, cv, rfl, _⟩ := h.val
    have HSZ : Hid _ := size_calls av zs.length cv W0 hl
    rw [h0] at HSZ
    clear h b0 b1 b2 b0' b1' hb s1 s2 hl h0 fa fb hA hB hsz
    generalize ph6I A B = ph at *
    generalize u8L A = xA at *
    generalize u8L B = xB at *
    go_enter Try.func18, Try.ntmps18
    go_wp2_with fail
    refine Calls.mono HSZ.out ?_
    rintro _ _ ⟨rfl, rfl⟩
    go_wp2_with first
      | ((with_reducible show wpList _ _ _ _ _ _); refine arm_load rfl (.tmp 3) 59 rfl rfl LA.out ?_)
      | ((with_reducible show wpList _ _ _ _ _ _); refine arm_load rfl (.tmp 4) 59 rfl rfl LB.out ?_)
    refine Calls.mono HPS.out ?_
    rintro _ w1 ⟨hv, rfl, hh, hb1⟩
    have HP1 : Hid _ := HP.out w1 hv hb1 hh
    obtain ⟨ah, kh, rfl, _⟩ := hh.val
    clear hh HP HPS LA LB
    go_wp2_with fail
    refine Calls.mono HP1.out ?_
    rintro _ w2 ⟨c, rfl, hc, hb2⟩
    have hx2 := hb1.trans (hb2.mono hb1.size)
    obtain ⟨w3, hst3, b3, hon3⟩ := box_store Try.sizeOf26 (blk_on B0.out hx2) rfl c hc.1.len hc.1.one
    have HST3 : Hid _ := hst3
    have B3 : Hid _ := b3
    have hs0 := HB.out.size
    have hs1 := hb1.size
    have HC : Hid (MsgN w w3 c (pM ph zs)) := (hc.only (by omega) hon3).old (by omega)
    have HCL : Hid _ := hc.1.len
    have HE : Hid (Below w.heap.size w w3) := (HB.out.trans (hx2.mono HB.out.size)).trans (hon3.below (by omega))
    clear hst3 b3 hon3 hc hb2 HP1 hs0 hs1 hlt0 hx2
    generalize hte : pE ph zs = te at *
    have HTE : Hid _ := hte
    clear hte
    go_wp2_with ((with_reducible show wpList _ _ _ _ _ _); refine arm_store rfl (.tmp 6) (.tmp 28) 26 rfl rfl rfl HST3.out ?_)
    exact bodyPost_ret (res2t rfl rfl (agg_loadVar Try.isAgg26 Try.sizeOf26 HCL.out (CellsAt.of_blk B3.out))) rfl ⟨c, by rw [HTE.out]; rfl, HC.out, HE.out⟩
  · have HE : Hid _ := pE_size (ph := ph6I A B) h0
    obtain ⟨av, cv, rfl, _⟩ := h.val
    have HSZ : Hid _ := size_calls av zs.length cv W0 hl
    generalize hsz : szE zs.length = er at *
    have HSZE : Hid _ := hsz
    have q0 : (er != 0) = true := by simpa using h0
    have H0 : Hid _ := h0
    obtain ⟨w3, hst3, b3, hon3⟩ := box_store Try.sizeOf26 b2 rfl [.int .u8 0, .int .u8 0, .int .u32 0, .slice none 0 0] rfl (by simp [Value.oneCell'])
    have HST : Hid _ := hst3
    have B3 : Hid _ := b3
    have HX : Hid (Below w.heap.size w w3) := hb.trans (hon3.below (by omega))
    clear h b0 b1 b2 b0' b1' hb s1 s2 hl h0 hsz hst3 b3 hon3 hlt0 fa fb hA hB
    generalize ph6I A B = ph at *
    generalize u8L A = xA at *
    generalize u8L B = xB at *
    go_enter Try.func18, Try.ntmps18
    go_wp2_with fail
    refine Calls.mono HSZ.out ?_
    rintro _ _ ⟨rfl, rfl⟩
    go_wp2_with ((with_reducible show wpList _ _ _ _ _ _); refine arm_store rfl (.tmp 6) (.tmp 15) 26 rfl rfl rfl HST.out ?_)
    exact bodyPost_ret (res2t rfl rfl (agg_loadVar Try.isAgg26 Try.sizeOf26 rfl (CellsAt.of_blk B3.out))) rfl (.bad HE.out H0.out rfl HX.out)

set_option maxHeartbeats 8000000 in
set_option maxRecDepth 100000 in
theorem icmpParses_walk (A B : List Int) (la : A.length = 16) (lb : B.length = 16) (fa : Fit A) (fb : Fit B) (v : Value) (zs0 : List Int) (w : World) (h : RowC w v zs0) :
    Calls Try.prog 4 #[.agg (u8L A).toArray, .agg (u8L B).toArray, v] w fun e w' => e = .returned (.bool true) ∧ Below w.heap.size w w' := by
  obtain ⟨u, hu, hcut⟩ := cut_any v zs0 w h
  obtain ⟨W0, hW0⟩ : ∃ W0, (w.alloc (.cells (u8L A).toArray 22)).alloc (.cells (u8L B).toArray 22) = W0 := ⟨_, rfl⟩
  have b0 := blk_new w (.cells (u8L A).toArray 22)
  have b1 := blk_new (w.alloc (.cells (u8L A).toArray 22)) (.cells (u8L B).toArray 22)
  have b0' := blk_alloc b0 (.cells (u8L B).toArray 22)
  have hb : Below w.heap.size w ((w.alloc (.cells (u8L A).toArray 22)).alloc (.cells (u8L B).toArray 22)) := ((Below.refl _ w).alloc (Nat.le_refl _) _).alloc (by simp) _
  rw [hW0] at b0' b1 hb
  have s1 : (w.alloc (.cells (u8L A).toArray 22)).heap.size = w.heap.size + 1 := by simp
  rw [s1] at b1
  have HLA : Hid (∀ W, Below W0.heap.size W0 W → (Instr.loadAt 22 (.pointer (some ⟨w.heap.size, 0, none⟩))).run Try.prog W = .ok (.agg (u8L A).toArray) W) := fun W hW => agg_load Try.isAgg22 Try.sizeOf22 (by simp [u8L, la]) (CellsAt.of_blk (blk_on b0' hW))
  have HLB : Hid (∀ W, Below W0.heap.size W0 W → (Instr.loadAt 22 (.pointer (some ⟨w.heap.size + 1, 0, none⟩))).run Try.prog W = .ok (.agg (u8L B).toArray) W) := fun W hW => agg_load Try.isAgg22 Try.sizeOf22 (by simp [u8L, lb]) (CellsAt.of_blk (blk_on b1 hW))
  generalize zs0.take 70000 = zs at *
  have hR : ∀ W, Below W0.heap.size W0 W → RowC W u zs := fun W hW => hu.on (hb.trans (hW.mono hb.size))
  have M1 : Hid (∀ W, Below W0.heap.size W0 W → Calls Try.prog 15 #[u] W fun e w' => ParI phN zs W e w') := fun W hW => Parse4_any u zs W (hR W hW)
  have M2 : Hid (∀ W, Below W0.heap.size W0 W → Calls Try.prog 16 #[u] W fun e w' => ParI phN zs W e w') := fun W hW => RParse4_any u zs W (hR W hW)
  have M3 : Hid (∀ W, Below W0.heap.size W0 W → Calls Try.prog 17 #[.agg (u8L A).toArray, .agg (u8L B).toArray, u] W fun e w' => ParI (ph6I A B) zs W e w') := fun W hW => Parse6_any A B la lb fa fb u zs W (hR W hW)
  have M4 : Hid (∀ W, Below W0.heap.size W0 W → Calls Try.prog 18 #[.agg (u8L A).toArray, .agg (u8L B).toArray, u] W fun e w' => ParI (ph6I A B) zs W e w') := fun W hW => RParse6_any A B la lb fa fb u zs W (hR W hW)
  unfold ParI at M1 M2 M3 M4
  generalize pE phN zs = e4 at *
  generalize pM phN zs = m4 at *
  generalize pE (ph6I A B) zs = e6 at *
  generalize pM (ph6I A B) zs = m6 at *
  have HCUT : Hid _ := hcut
  have HB : Hid _ := hb
  obtain ⟨av, cv, rfl, _⟩ := h.val
  obtain ⟨au, cu, rfl, _⟩ := hu.val
  have hx0 : Below W0.heap.size W0 W0 := Below.refl _ _
  have q3 : (e4 == e4) = true := by simp
  have q4 : (e6 == e6) = true := by simp
  clear hcut hb b0 b1 b0' s1 hR h hu fa fb la lb
  generalize u8L A = xA at *
  generalize u8L B = xB at *
  go_enter Try.func4, Try.ntmps4
  go_wp2_with fail
  refine Calls.mono (HCUT.out _) ?_
  rintro _ _ ⟨rfl, rfl⟩
  go_wp2_with fail
  refine Calls.mono (M1.out _ hx0) ?_
  rintro _ w1 ⟨d1, rfl, hd1, hb1⟩
  obtain ⟨w2, hst1, b1, hc1⟩ := box_new Try.sizeOf26 w1 [.int .u8 0, .int .u8 0, .int .u32 0, .slice none 0 0] rfl d1 hd1.1.len hd1.1.one
  have hy1 := hb1.trans (hc1.mono hb1.size)
  have hx2 := hx0.trans (hy1.mono hx0.size)
  have D1 : Hid (MsgC w2 d1 m4) := hd1.1.on hc1
  have B1 : Hid _ := b1
  have HST1 : Hid _ := hst1
  have L1 : Hid _ := hd1.1.len
  have Y1 : Hid _ := hy1
  clear hd1 hb1 hc1 hst1 b1 hy1 M1
  go_wp2_with first
    | ((with_reducible show wpList _ _ _ _ _ _); refine arm_store rfl (.tmp 7) (.tmp 20) 26 rfl rfl rfl HST1.out ?_)
  refine Calls.mono (M2.out _ hx2) ?_
  rintro _ w3 ⟨d3, rfl, hd3, hb3⟩
  obtain ⟨w4, hst3, b3, hc3⟩ := box_new Try.sizeOf26 w3 [.int .u8 0, .int .u8 0, .int .u32 0, .slice none 0 0] rfl d3 hd3.1.len hd3.1.one
  have hy3 := hb3.trans (hc3.mono hb3.size)
  have hx4 := hx2.trans (hy3.mono hx2.size)
  have D3 : Hid (MsgC w4 d3 m4) := hd3.1.on hc3
  have B3 : Hid _ := b3
  have HST3 : Hid _ := hst3
  have L3 : Hid _ := hd3.1.len
  have Y3 : Hid _ := hy3
  clear hd3 hb3 hc3 hst3 b3 hy3 M2
  go_wp2_with first
    | ((with_reducible show wpList _ _ _ _ _ _); refine arm_store rfl (.tmp 9) (.tmp 25) 26 rfl rfl rfl HST3.out ?_)
    | ((with_reducible show wpList _ _ _ _ _ _); refine arm_load rfl (.tmp 3) 22 rfl rfl (HLA.out _ hx4) ?_)
    | ((with_reducible show wpList _ _ _ _ _ _); refine arm_load rfl (.tmp 4) 22 rfl rfl (HLB.out _ hx4) ?_)
  refine Calls.mono (M3.out _ hx4) ?_
  rintro _ w5 ⟨d5, rfl, hd5, hb5⟩
  obtain ⟨w6, hst5, b5, hc5⟩ := box_new Try.sizeOf26 w5 [.int .u8 0, .int .u8 0, .int .u32 0, .slice none 0 0] rfl d5 hd5.1.len hd5.1.one
  have hy5 := hb5.trans (hc5.mono hb5.size)
  have hx6 := hx4.trans (hy5.mono hx4.size)
  have D5 : Hid (MsgC w6 d5 m6) := hd5.1.on hc5
  have B5 : Hid _ := b5
  have HST5 : Hid _ := hst5
  have L5 : Hid _ := hd5.1.len
  have Y5 : Hid _ := hy5
  clear hd5 hb5 hc5 hst5 b5 hy5 M3
  go_wp2_with first
    | ((with_reducible show wpList _ _ _ _ _ _); refine arm_store rfl (.tmp 11) (.tmp 32) 26 rfl rfl rfl HST5.out ?_)
    | ((with_reducible show wpList _ _ _ _ _ _); refine arm_load rfl (.tmp 3) 22 rfl rfl (HLA.out _ hx6) ?_)
    | ((with_reducible show wpList _ _ _ _ _ _); refine arm_load rfl (.tmp 4) 22 rfl rfl (HLB.out _ hx6) ?_)
  refine Calls.mono (M4.out _ hx6) ?_
  rintro _ w7 ⟨d7, rfl, hd7, hb7⟩
  obtain ⟨w8, hst7, b7, hc7⟩ := box_new Try.sizeOf26 w7 [.int .u8 0, .int .u8 0, .int .u32 0, .slice none 0 0] rfl d7 hd7.1.len hd7.1.one
  have hy7 := hb7.trans (hc7.mono hb7.size)
  have hx8 := hx6.trans (hy7.mono hx6.size)
  have z5 := Y5.out.trans (hy7.mono Y5.out.size)
  have z3 := Y3.out.trans (z5.mono Y3.out.size)
  have P1 : Hid (∀ W, Below w8.heap.size w8 W → (Instr.loadAt 26 (.pointer (some ⟨w1.heap.size, 0, none⟩))).run Try.prog W = .ok (.agg d1.toArray) W) := fun W hW => agg_load Try.isAgg26 Try.sizeOf26 L1.out (CellsAt.of_blk (blk_on (blk_on B1.out z3) hW))
  have P3 : Hid (∀ W, Below w8.heap.size w8 W → (Instr.loadAt 26 (.pointer (some ⟨w3.heap.size, 0, none⟩))).run Try.prog W = .ok (.agg d3.toArray) W) := fun W hW => agg_load Try.isAgg26 Try.sizeOf26 L3.out (CellsAt.of_blk (blk_on (blk_on B3.out z5) hW))
  have P5 : Hid (∀ W, Below w8.heap.size w8 W → (Instr.loadAt 26 (.pointer (some ⟨w5.heap.size, 0, none⟩))).run Try.prog W = .ok (.agg d5.toArray) W) := fun W hW => agg_load Try.isAgg26 Try.sizeOf26 L5.out (CellsAt.of_blk (blk_on (blk_on B5.out hy7) hW))
  have P7 : Hid (∀ W, Below w8.heap.size w8 W → (Instr.loadAt 26 (.pointer (some ⟨w7.heap.size, 0, none⟩))).run Try.prog W = .ok (.agg d7.toArray) W) := fun W hW => agg_load Try.isAgg26 Try.sizeOf26 hd7.1.len (CellsAt.of_blk (blk_on b7 hW))
  have S1 : Hid (Calls Try.prog 19 #[.agg d1.toArray, .agg d3.toArray] w8 fun e w' => e = .returned (.bool true) ∧ Below w8.heap.size w8 w') := by
    have k := RSame_calls w8 (D1.out.on z3) (D3.out.on z5)
    rw [sameM_self] at k
    exact k
  have S2 : Hid (∀ W, Below w8.heap.size w8 W → Calls Try.prog 19 #[.agg d5.toArray, .agg d7.toArray] W fun e w' => e = .returned (.bool true) ∧ Below W.heap.size W w') := fun W hW => by
    have k := RSame_calls W ((D5.out.on hy7).on hW) ((hd7.1.on hc7).on hW)
    rw [sameM_self] at k
    exact k
  have HST7 : Hid _ := hst7
  have HF : Hid (Below w.heap.size w w8) := HB.out.trans (hx8.mono HB.out.size)
  have hz0 : Below w8.heap.size w8 w8 := Below.refl _ _
  clear hd7 hb7 hc7 hst7 b7 hy7 z5 z3 hx8 hx6 hx4 hx2 hx0 D1 D3 D5 B1 B3 B5 L1 L3 L5 Y1 Y3 Y5 HST1 HST3 HST5 HLA HLB M4
  go_wp2_with first
    | ((with_reducible show wpList _ _ _ _ _ _); refine arm_store rfl (.tmp 13) (.tmp 39) 26 rfl rfl rfl HST7.out ?_)
    | ((with_reducible show wpList _ _ _ _ _ _); refine arm_load rfl (.tmp 7) 26 rfl rfl (P1.out _ hz0) ?_)
    | ((with_reducible show wpList _ _ _ _ _ _); refine arm_load rfl (.tmp 9) 26 rfl rfl (P3.out _ hz0) ?_)
  refine Calls.mono S1.out ?_
  rintro _ w9 ⟨rfl, hz9⟩
  go_wp2_with first
    | ((with_reducible show wpList _ _ _ _ _ _); refine arm_load rfl (.tmp 11) 26 rfl rfl (P5.out _ hz9) ?_)
    | ((with_reducible show wpList _ _ _ _ _ _); refine arm_load rfl (.tmp 13) 26 rfl rfl (P7.out _ hz9) ?_)
  refine Calls.mono (S2.out _ hz9) ?_
  rintro _ w10 ⟨rfl, hz10⟩
  go_wp2_with fail
  refine Calls.mono (alive_calls _) ?_
  rintro _ w11 ⟨rfl, hz11⟩
  go_wp2
  go_ret
  have hz1 := hz9.trans (hz10.mono hz9.size)
  have hz2 := hz1.trans (hz11.mono hz1.size)
  exact ⟨rfl, HF.out.trans (hz2.mono HF.out.size)⟩

set_option maxRecDepth 100000 in
theorem icmpParses_open {H : Type} {enc : TypeId × Value → H} {W : World} {base : Nat} (v0 v1 v2 : Value) {d0 d1 d2 : DataW H} {p0 p1 p2 : List MemPlace}
    (o0 : Value.okWide Try.prog W .any base 22 v0) (h0 : DataW.Trod enc Try.prog W 0 (fun _ => true) true 22 v0 d0 p0) (z0 : ∀ k ∈ d0.weights Try.prog 22, k ≤ reachBytes)
    (o1 : Value.okWide Try.prog W .any base 22 v1) (h1 : DataW.Trod enc Try.prog W 0 (fun _ => true) true 22 v1 d1 p1) (z1 : ∀ k ∈ d1.weights Try.prog 22, k ≤ reachBytes)
    (o2 : Value.okWide Try.prog W .any base 24 v2) (h2 : DataW.Trod enc Try.prog W 0 (fun _ => true) true 24 v2 d2 p2) (z2 : ∀ k ∈ d2.weights Try.prog 24, k ≤ reachBytes) :
    Calls Try.prog 4 #[v0, v1, v2] W fun e w' => e = .returned (.bool true) ∧ Below W.heap.size W w' := by
  obtain ⟨A, rfl, la, fa⟩ := open_arr16 h0
  obtain ⟨B, rfl, lb, fb⟩ := open_arr16 h1
  obtain ⟨zs, hr⟩ := open_row o2 h2 z2
  exact icmpParses_walk A B la lb fa fb v2 zs W hr

end Go.Proofs.Ytljmamogefgiaaa
