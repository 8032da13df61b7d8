/-
  Best4, Best6 of a table of package trie.
-/
import Derived.Test.YtabmkbhmgfneiaaTd1
namespace Go.Proofs.Ytabmkbhmgfneiaa
open Go Go.RowKit Go.Shelf
set_option linter.unusedVariables false
set_option linter.unusedSimpArgs false

def tbC (mk : Bool) (lim cnt : Int) (T4 T6 : Tr) : List Value := [.bool mk, .int .i64 lim, .int .i64 cnt, enc T4, enc T6]
def lastE (l : List Ent) : List Int × Int × Int := match l.getLast? with | none => (List.replicate 16 0, 0, 0) | some e => (bytN 16 e.1, e.1.length, e.2)
theorem lastE_len (l : List Ent) : (lastE l).1.length = 16 := by
  unfold lastE
  split
  · rfl
  · exact bytN_length _ _
theorem lastC_E (l : List Ent) : lastC l = enC (lastE l).1 (lastE l).2.1 (lastE l).2.2 := by
  unfold lastC lastE
  cases l.getLast? <;> rfl
theorem region_midT {P : Program} {id : Nat} {ops : Array Oper} {Q : Exit → Act → World → Prop} {a : Act} {w : World} (M : Act → Act → World → Prop) (h : (Code.region id ops true).wp P (fun e a' w' => match e with | .normal => M a a' w' | _ => False) a w) (hM : ∀ a' w', M a a' w' → Q .normal a' w') : (Code.region id ops true).wp P Q a w :=
  wp_mono h (fun e a' w' hm => by cases e <;> first | exact hM a' w' hm | exact hm.elim)
theorem wp_newT {P : Program} {o : Oper} {a : Act} {d : Option Nat} {w : World} {v : Nat → Value} {z : Obj} {K : Act → World → Prop} {Q : Exit → Act → World → Prop} (hd : o.dst = d) (hrun : (execOp a.eval o).run P w = .ok (.value (v w.heap.size)) (w.alloc z))
    (hK : ∀ c W', c = w.heap.size → W'.heap[c]? = some z → Below w.heap.size w W' → K (a.put d (v c)) W') : o.wp P a w K Q := by
  subst hd
  unfold Oper.wp
  rw [hrun]
  exact hK _ _ rfl (blk_new w z) ((Below.refl w.heap.size w).alloc (Nat.le_refl _) z)
theorem res2u {P : Program} {fn : Func} {a b : Tmp} {t : TypeId} (h : fn.results = #[.cell a t, .tmp b]) {tmps : Array Value} {R : Addr} (hp : tmps.getD a undef = .pointer (some R)) {y : Value} (hy : tmps.getD b undef = y) {v : Value} {w : World} (hl : (loadVar t R).run P w = .ok v w) :
    (results fn tmps).run P w = .ok (.tuple #[v, y]) w := by
  rw [Array.getD_eq_getD_getElem?] at hp hy
  simp [results, h, hp, hy, asAddr, hl]
theorem build_p4 (a : List Int) (ha : a.length = 4) (n : Int) (W : World) : (Instr.build 35 #[(0, .agg (u8s a).toArray), (1, .int .i64 n)]).run Try.prog W = .ok (.agg (cp6 a n).toArray) W := by
  match a, ha with
  | [x0, x1, x2, x3], _ => exact run_build W _ _ _ (by kernel_rfl)
theorem P4_key {a : List Int} (hf : FitB a) (ha : a.length = 4) : (.agg (cp6 (a ++ List.replicate 12 0) 32).toArray : Value) = KV (bitsK (a ++ List.replicate 12 0) 32) := by
  have hl : (a ++ List.replicate 12 (0 : Int)).length = 16 := by simp [ha]
  have hf2 : FitB (a ++ List.replicate 12 (0 : Int)) := fun z hz => by
    rcases List.mem_append.1 hz with h | h
    · exact hf z h
    · rw [(List.mem_replicate.1 h).2]; omega
  have key : a ++ List.replicate 12 (0 : Int) = bytN 16 (bitsK (a ++ List.replicate 12 0) 32) := by
    refine row_ext (by rw [bytN_length, hl]) hf2 (bytN_fit _ _) (fun p hp => ?_)
    rw [hl] at hp
    rw [bitN_bytN _ _ _ (by omega), bt_bitsK]
    by_cases h32 : p < 32
    · rw [if_pos h32]
    · rw [if_neg h32]
      unfold bitN
      have : (a ++ List.replicate 12 (0 : Int))[p / 8]?.getD 0 = 0 := by
        rw [List.getElem?_append_right (by omega)]
        by_cases h12 : p / 8 - a.length < 12
        · rw [List.getElem?_replicate, if_pos h12]; rfl
        · rw [List.getElem?_replicate, if_neg h12]; rfl
      rw [this]
      simp [bk]
  show Value.agg (cp6 _ 32).toArray = Value.agg (cp6 (bytN 16 _) (bitsK _ 32).length).toArray
  rw [← key, bitsK_length]
  rfl
theorem ld_node3 {W : World} {b : Nat} {mk : Bool} {lim cnt : Int} {T4 T6 : Tr} (h : W.heap[b]? = some (.cells (tbC mk lim cnt T4 T6).toArray 76)) : (Instr.loadAt 74 (.pointer (some ⟨b, 3, none⟩))).run Try.prog W = .ok (enc T4) W := by
  have c : W.cell? ⟨b, 3, none⟩ = some (enc T4) := blk_cell h rfl
  simp [Instr.loadAt, go_sem, c]
theorem ld_node4 {W : World} {b : Nat} {mk : Bool} {lim cnt : Int} {T4 T6 : Tr} (h : W.heap[b]? = some (.cells (tbC mk lim cnt T4 T6).toArray 76)) : (Instr.loadAt 74 (.pointer (some ⟨b, 4, none⟩))).run Try.prog W = .ok (enc T6) W := by
  have c : W.cell? ⟨b, 4, none⟩ = some (enc T6) := blk_cell h rfl
  simp [Instr.loadAt, go_sem, c]
set_option maxHeartbeats 4000000 in
set_option maxRecDepth 100000 in
theorem Best4_any {W : World} {b : Nat} {mk : Bool} {lim cnt : Int} {T4 T6 : Tr} (h : W.heap[b]? = some (.cells (tbC mk lim cnt T4 T6).toArray 76)) (hok : T4.Ok) (a : List Int) (ha : a.length = 4) (hf : FitB a) (L : List Ent) (hL : L = T4.walk (fun k => pre k (bitsK (a ++ List.replicate 12 0) 32))) :
    Calls Try.prog 14 #[.pointer (some ⟨b, 0, none⟩), .agg (u8s a).toArray] W fun e w' => e = .returned (.tuple #[.agg (enC ((lastE L).1.take 4) (lastE L).2.1 (lastE L).2.2).toArray, .bool (lastB L)]) ∧ Below W.heap.size W w' := by
  obtain ⟨n, hn⟩ : ∃ n, W.heap.size = n := ⟨_, rfl⟩
  obtain ⟨W1, hW1⟩ : ∃ W1, W1 = (W.alloc (.cells (u8s a).toArray 33)).alloc (.cells [.int .u8 0, .int .u8 0, .int .u8 0, .int .u8 0, .int .i64 0, .int .i64 0].toArray 47) := ⟨_, rfl⟩
  have hB1 : Below W.heap.size W W1 := by rw [hW1]; exact ((Below.refl W.heap.size W).alloc (Nat.le_refl _) _).alloc (by simp) _
  have hsA : W1.heap[W.heap.size]? = some (.cells (u8s a).toArray 33) := by rw [hW1]; exact blk_alloc (blk_new W _) _
  have hsE : W1.heap[W.heap.size + 1]? = some (.cells [.int .u8 0, .int .u8 0, .int .u8 0, .int .u8 0, .int .i64 0, .int .i64 0].toArray 47) := by
    have := blk_new (W.alloc (.cells (u8s a).toArray 33)) (.cells [.int .u8 0, .int .u8 0, .int .u8 0, .int .u8 0, .int .i64 0, .int .i64 0].toArray 47)
    rw [show (W.alloc (.cells (u8s a).toArray 33)).heap.size = W.heap.size + 1 by simp] at this
    rw [hW1]; exact this
  have hsT := blk_on h hB1
  have hs1 : W1.heap.size = W.heap.size + 2 := by rw [hW1]; simp
  have hlu : (u8s a).length = 4 := by simp [u8s, ha]
  have HK1 : Hid (∀ X : World, (Instr.build 35 #[(0, .agg (u8s a).toArray), (1, .int .i64 32)]).run Try.prog X = .ok (.agg (cp6 a 32).toArray) X) := fun X => build_p4 a ha 32 X
  have HKC : Hid (∀ X : World, Calls Try.prog 43 #[.agg (cp6 a 32).toArray] X fun e w' => e = .returned (KV (bitsK (a ++ List.replicate 12 0) 32)) ∧ Below X.heap.size X w') := fun X => by rw [← P4_key hf ha]; exact key4_any a ha 32 X
  have hkl : (bitsK (a ++ List.replicate 12 0) 32).length ≤ 128 := by rw [bitsK_length]; decide
  have HLG : Hid (∀ X : World, Calls Try.prog 42 #[enc T4, KV (bitsK (a ++ List.replicate 12 0) 32)] X fun e w' => e = .returned (.tuple #[.agg (lastC L).toArray, .bool (lastB L)]) ∧ Below X.heap.size X w') := fun X => by rw [hL]; exact longest_any T4 hok _ hkl X
  have HEC : Hid (∀ X : World, Calls Try.prog 44 #[.agg (lastC L).toArray] X fun e w' => e = .returned (.agg (enC ((lastE L).1.take 4) (lastE L).2.1 (lastE L).2.2).toArray) ∧ Below X.heap.size X w') := fun X => by rw [lastC_E L]; exact entry4_any _ (lastE_len L) _ _ X
  have HCL : Hid ((lastC L).length = 18 ∧ ∀ u ∈ lastC L, u.oneCell' = true) := ⟨lastC_length L, lastC_one L⟩
  have HEL : Hid ((enC ((lastE L).1.take 4) (lastE L).2.1 (lastE L).2.2).length = 6 ∧ ∀ u ∈ enC ((lastE L).1.take 4) (lastE L).2.1 (lastE L).2.2, u.oneCell' = true) := ⟨by simp [enC_len, lastE_len], enC_one _ _ _⟩
  have HSA : Hid _ := hsA
  have HSE : Hid (W1.heap[W.heap.size + 1]? = some (.cells [.int .u8 0, .int .u8 0, .int .u8 0, .int .u8 0, .int .i64 0, .int .i64 0].toArray 47)) := hsE
  have HST : Hid (W1.heap[b]? = some (.cells (tbC mk lim cnt T4 T6).toArray 76)) := hsT
  have HB1 : Hid (Below W.heap.size W W1) := hB1
  have HLU : Hid ((u8s a).length = 4) := hlu
  have HS1 : Hid (W1.heap.size = W.heap.size + 2) := hs1
  have hTE := enc_one T4
  have HTE : Hid _ := hTE
  have hW := hW1.symm
  clear hsA hsE hsT hB1 hlu hs1 hW1 h hf hL hkl hTE
  obtain ⟨CC, hCC⟩ : ∃ CC, lastC L = CC := ⟨_, rfl⟩
  rw [hCC] at HLG HEC HCL
  clear hCC
  obtain ⟨BB, hBB⟩ : ∃ BB, lastB L = BB := ⟨_, rfl⟩
  rw [hBB] at HLG
  rw [hBB]
  clear hBB
  obtain ⟨EE, hEE⟩ : ∃ EE, enC ((lastE L).1.take 4) (lastE L).2.1 (lastE L).2.2 = EE := ⟨_, rfl⟩
  rw [hEE] at HEC HEL
  rw [hEE]
  clear hEE
  obtain ⟨KK, hKK⟩ : ∃ KK, KV (bitsK (a ++ List.replicate 12 0) 32) = KK := ⟨_, rfl⟩
  rw [hKK] at HLG HKC
  clear hKK
  obtain ⟨UA, hUA⟩ : ∃ UA, u8s a = UA := ⟨_, rfl⟩
  rw [hUA] at HK1 HSA hW HLU
  rw [hUA]
  clear hUA
  obtain ⟨PP, hPP⟩ : ∃ PP, (.agg (cp6 a 32).toArray : Value) = PP := ⟨_, rfl⟩
  rw [hPP] at HK1 HKC
  clear hPP
  generalize hQ : (fun (e : Ending) (w' : World) => e = .returned (.tuple #[.agg EE.toArray, .bool BB]) ∧ Below W.heap.size W w') = Q
  have HQ : Hid (∀ e w', e = .returned (.tuple #[.agg EE.toArray, .bool BB]) ∧ Below W.heap.size W w' → Q e w') := fun e w' hh => by rw [← hQ]; exact hh
  clear hQ hn
  go_enter Try.func14, Try.ntmps14
  go_wp2_with fail
  refine region_midT (fun a0 a' w' => ∃ c, a' = (((((((((((((a0.put (some 12) (.pointer (some ⟨b, 0, none⟩))).put (some 13) (.pointer (some ⟨b, 0, none⟩))).put (some 14) (.pointer (some ⟨b, 3, none⟩))).put (some 15) (enc T4)).put (some 16) (.agg UA.toArray)).put (some 17) (PP)).put (some 18) (KK)).put (some 19) (.tuple #[.agg CC.toArray, .bool BB])).put (some 11) (.tuple #[.agg CC.toArray, .bool BB])).put (some 20) (.agg CC.toArray)).put (some 21) (.bool BB)).put (some 6) (.pointer (some ⟨c, 0, none⟩))).put (some 7) (.bool BB)) ∧ W1.heap.size ≤ c ∧ w'.heap[c]? = some (.cells CC.toArray 85) ∧ Below W1.heap.size W1 w') ?_ ?_
  · skip
    refine wp_region_held (S := (fun X => X.heap[b]? = some (.cells (tbC mk lim cnt T4 T6).toArray 76) ∧ X.heap[W.heap.size]? = some (.cells UA.toArray 33))) (by kernel_rfl) ?_
    show wpAnyH _ _ _ _ _ 14 (Array.replicate 14 false) _ _
    have hS0 : W1.drew.heap[b]? = some (.cells (tbC mk lim cnt T4 T6).toArray 76) ∧ W1.drew.heap[W.heap.size]? = some (.cells UA.toArray 33) := ⟨HST.out, HSA.out⟩
    have kB0 : Below W1.heap.size W1 W1.drew := (Below.refl _ W1).drew
    refine take_one (i := 0) (d := some 12) (v := .pointer (some ⟨b, 0, none⟩)) rfl rfl rfl (by kernel_rfl) (by kernel_rfl) (by kernel_rfl) (fun _ _ _ _ _ h => h.elim) (fun X hS => by kernel_rfl) hS0 ?_
    simp only [Act.put, List.setIfInBounds_toArray, List.set_cons_zero, List.set_cons_succ]
    refine take_one (i := 1) (d := some 13) (v := .pointer (some ⟨b, 0, none⟩)) rfl rfl rfl (by kernel_rfl) (by kernel_rfl) (by kernel_rfl) (fun _ _ _ _ _ h => h.elim) (fun X hS => by kernel_rfl) hS0 ?_
    simp only [Act.put, List.setIfInBounds_toArray, List.set_cons_zero, List.set_cons_succ]
    refine take_one (i := 2) (d := some 14) (v := .pointer (some ⟨b, 3, none⟩)) rfl rfl rfl (by kernel_rfl) (by kernel_rfl) (by kernel_rfl) (fun _ _ _ _ _ h => h.elim) (fun X hS => by kernel_rfl) hS0 ?_
    simp only [Act.put, List.setIfInBounds_toArray, List.set_cons_zero, List.set_cons_succ]
    refine take_one (i := 3) (d := some 15) (v := enc T4) rfl rfl rfl (by kernel_rfl) (by kernel_rfl) (by kernel_rfl) (fun _ _ _ _ _ h => h.elim) (fun X hS => ex_loadA (.tmp 14) 74 rfl rfl (ld_node3 hS.1)) hS0 ?_
    simp only [Act.put, List.setIfInBounds_toArray, List.set_cons_zero, List.set_cons_succ]
    refine take_one (i := 4) (d := some 16) (v := .agg UA.toArray) rfl rfl rfl (by kernel_rfl) (by kernel_rfl) (by kernel_rfl) (fun _ _ _ _ _ h => h.elim) (fun X hS => ex_loadA (.tmp 3) 33 rfl rfl (agg_load (n := 4) (fun w => by kernel_rfl) (fun w => by kernel_rfl) HLU.out (CellsAt.of_blk hS.2))) hS0 ?_
    simp only [Act.put, List.setIfInBounds_toArray, List.set_cons_zero, List.set_cons_succ]
    refine take_one (i := 5) (d := some 17) (v := PP) rfl rfl rfl (by kernel_rfl) (by kernel_rfl) (by kernel_rfl) (fun _ _ _ _ _ h => h.elim) (fun X hS => ex_buildA 35 [(0, .tmp 16), (1, .const (.int .i64 32))] rfl rfl (HK1.out X)) hS0 ?_
    simp only [Act.put, List.setIfInBounds_toArray, List.set_cons_zero, List.set_cons_succ]
    refine all_two (i1 := 6) (i2 := 11) (by kernel_rfl) rfl rfl rfl rfl ?_ ?_
    · skip
      refine wp_call (d := some 18) 43 _ rfl (by kernel_rfl) (callR (HKC.out _)) ?_
      rintro _ X1 ⟨rfl, hb1⟩
      have hS1 := And.intro (blk_kept hS0.1 hb1) (blk_kept hS0.2 hb1)
      have kB1 := kB0.trans (hb1.mono kB0.size)
      refine ⟨hS1, ?_⟩
      simp only [Act.put, List.setIfInBounds_toArray, List.set_cons_zero, List.set_cons_succ]
      refine all_two (i1 := 7) (i2 := 11) (by kernel_rfl) rfl rfl rfl rfl ?_ ?_
      · skip
        refine wp_call (d := some 19) 42 _ rfl (by kernel_rfl) (callR (HLG.out _)) ?_
        rintro _ X2 ⟨rfl, hb2⟩
        have hS2 := And.intro (blk_kept hS1.1 hb2) (blk_kept hS1.2 hb2)
        have kB2 := kB1.trans (hb2.mono kB1.size)
        refine ⟨hS2, ?_⟩
        simp only [Act.put, List.setIfInBounds_toArray, List.set_cons_zero, List.set_cons_succ]
        refine take_one (i := 8) (d := some 11) (v := .tuple #[.agg CC.toArray, .bool BB]) rfl rfl rfl (by kernel_rfl) (by kernel_rfl) (by kernel_rfl) (fun _ _ _ _ _ h => h.elim) (fun X hS => by kernel_rfl) hS2 ?_
        simp only [Act.put, List.setIfInBounds_toArray, List.set_cons_zero, List.set_cons_succ]
        refine take_one (i := 9) (d := some 20) (v := .agg CC.toArray) rfl rfl rfl (by kernel_rfl) (by kernel_rfl) (by kernel_rfl) (fun _ _ _ _ _ h => h.elim) (fun X hS => by kernel_rfl) hS2 ?_
        simp only [Act.put, List.setIfInBounds_toArray, List.set_cons_zero, List.set_cons_succ]
        refine take_one (i := 10) (d := some 21) (v := .bool BB) rfl rfl rfl (by kernel_rfl) (by kernel_rfl) (by kernel_rfl) (fun _ _ _ _ _ h => h.elim) (fun X hS => by kernel_rfl) hS2 ?_
        simp only [Act.put, List.setIfInBounds_toArray, List.set_cons_zero, List.set_cons_succ]
        refine all_one (i := 11) (by kernel_rfl) rfl rfl ?_
        refine wp_newT (d := some 6) (v := fun c => .pointer (some ⟨c, 0, none⟩)) (z := .cells zL.toArray 85) rfl (by kernel_rfl) ?_
        rintro c X3 hc hz3 hb3
        have hcn : W1.heap.size ≤ c := by rw [hc]; exact kB2.size
        have hS3 := And.intro (blk_kept hS2.1 hb3) (blk_kept hS2.2 hb3)
        have kB3 := kB2.trans (hb3.mono kB2.size)
        refine ⟨hS3, ?_⟩
        simp only [Act.put, List.setIfInBounds_toArray, List.set_cons_zero, List.set_cons_succ]
        obtain ⟨Xe, hst, bE, onE⟩ := box_store (ty := 85) (n := 18) (fun w => by kernel_rfl) hz3 rfl CC HCL.out.1 HCL.out.2
        have hne1 : b ≠ c := by have := (Array.getElem?_eq_some_iff.1 HST.out).1; omega
        have hne2 : W.heap.size ≠ c := by have := (Array.getElem?_eq_some_iff.1 HSA.out).1; omega
        have hSE := And.intro ((onE.other b hne1).trans hS3.1) ((onE.other _ hne2).trans hS3.2)
        refine all_one (i := 12) (by kernel_rfl) rfl rfl ?_
        refine wp_storeA (.tmp 6) (.tmp 20) 85 rfl rfl rfl rfl hst ⟨hSE, ?_⟩
        refine take_one (i := 13) (d := some 7) (v := .bool BB) rfl rfl rfl (by kernel_rfl) (by kernel_rfl) (by kernel_rfl) (fun _ _ _ _ _ h => h.elim) (fun X hS => by kernel_rfl) hSE ?_
        simp only [Act.put, List.setIfInBounds_toArray, List.set_cons_zero, List.set_cons_succ]
        refine wpAnyH_done (by kernel_rfl) ?_ _
        exact ⟨c, rfl, hcn, bE, kB3.trans (onE.below hcn)⟩
      · skip
        refine wp_newT (d := some 6) (v := fun c => .pointer (some ⟨c, 0, none⟩)) (z := .cells zL.toArray 85) rfl (by kernel_rfl) ?_
        rintro c X2 hc hz2 hb2
        have hcn : W1.heap.size ≤ c := by rw [hc]; exact kB1.size
        have hS2 := And.intro (blk_kept hS1.1 hb2) (blk_kept hS1.2 hb2)
        have kB2 := kB1.trans (hb2.mono kB1.size)
        refine ⟨hS2, ?_⟩
        simp only [Act.put, List.setIfInBounds_toArray, List.set_cons_zero, List.set_cons_succ]
        refine all_one (i := 7) (by kernel_rfl) rfl rfl ?_
        refine wp_call (d := some 19) 42 _ rfl (by kernel_rfl) (callR (HLG.out _)) ?_
        rintro _ X3 ⟨rfl, hb3⟩
        have hS3 := And.intro (blk_kept hS2.1 hb3) (blk_kept hS2.2 hb3)
        have kB3 := kB2.trans (hb3.mono kB2.size)
        have hz3 := blk_kept hz2 hb3
        refine ⟨hS3, ?_⟩
        simp only [Act.put, List.setIfInBounds_toArray, List.set_cons_zero, List.set_cons_succ]
        refine take_one (i := 8) (d := some 11) (v := .tuple #[.agg CC.toArray, .bool BB]) rfl rfl rfl (by kernel_rfl) (by kernel_rfl) (by kernel_rfl) (fun _ _ _ _ _ h => h.elim) (fun X hS => by kernel_rfl) hS3 ?_
        simp only [Act.put, List.setIfInBounds_toArray, List.set_cons_zero, List.set_cons_succ]
        refine take_one (i := 9) (d := some 20) (v := .agg CC.toArray) rfl rfl rfl (by kernel_rfl) (by kernel_rfl) (by kernel_rfl) (fun _ _ _ _ _ h => h.elim) (fun X hS => by kernel_rfl) hS3 ?_
        simp only [Act.put, List.setIfInBounds_toArray, List.set_cons_zero, List.set_cons_succ]
        refine take_one (i := 10) (d := some 21) (v := .bool BB) rfl rfl rfl (by kernel_rfl) (by kernel_rfl) (by kernel_rfl) (fun _ _ _ _ _ h => h.elim) (fun X hS => by kernel_rfl) hS3 ?_
        simp only [Act.put, List.setIfInBounds_toArray, List.set_cons_zero, List.set_cons_succ]
        obtain ⟨Xe, hst, bE, onE⟩ := box_store (ty := 85) (n := 18) (fun w => by kernel_rfl) hz3 rfl CC HCL.out.1 HCL.out.2
        have hne1 : b ≠ c := by have := (Array.getElem?_eq_some_iff.1 HST.out).1; omega
        have hne2 : W.heap.size ≠ c := by have := (Array.getElem?_eq_some_iff.1 HSA.out).1; omega
        have hSE := And.intro ((onE.other b hne1).trans hS3.1) ((onE.other _ hne2).trans hS3.2)
        refine all_one (i := 12) (by kernel_rfl) rfl rfl ?_
        refine wp_storeA (.tmp 6) (.tmp 20) 85 rfl rfl rfl rfl hst ⟨hSE, ?_⟩
        refine take_one (i := 13) (d := some 7) (v := .bool BB) rfl rfl rfl (by kernel_rfl) (by kernel_rfl) (by kernel_rfl) (fun _ _ _ _ _ h => h.elim) (fun X hS => by kernel_rfl) hSE ?_
        simp only [Act.put, List.setIfInBounds_toArray, List.set_cons_zero, List.set_cons_succ]
        refine wpAnyH_done (by kernel_rfl) ?_ _
        exact ⟨c, rfl, hcn, bE, kB3.trans (onE.below hcn)⟩
    · skip
      refine wp_newT (d := some 6) (v := fun c => .pointer (some ⟨c, 0, none⟩)) (z := .cells zL.toArray 85) rfl (by kernel_rfl) ?_
      rintro c X1 hc hz1 hb1
      have hcn : W1.heap.size ≤ c := by rw [hc]; exact kB0.size
      have hS1 := And.intro (blk_kept hS0.1 hb1) (blk_kept hS0.2 hb1)
      have kB1 := kB0.trans (hb1.mono kB0.size)
      refine ⟨hS1, ?_⟩
      simp only [Act.put, List.setIfInBounds_toArray, List.set_cons_zero, List.set_cons_succ]
      refine all_one (i := 6) (by kernel_rfl) rfl rfl ?_
      refine wp_call (d := some 18) 43 _ rfl (by kernel_rfl) (callR (HKC.out _)) ?_
      rintro _ X2 ⟨rfl, hb2⟩
      have hS2 := And.intro (blk_kept hS1.1 hb2) (blk_kept hS1.2 hb2)
      have kB2 := kB1.trans (hb2.mono kB1.size)
      have hz2 := blk_kept hz1 hb2
      refine ⟨hS2, ?_⟩
      simp only [Act.put, List.setIfInBounds_toArray, List.set_cons_zero, List.set_cons_succ]
      refine all_one (i := 7) (by kernel_rfl) rfl rfl ?_
      refine wp_call (d := some 19) 42 _ rfl (by kernel_rfl) (callR (HLG.out _)) ?_
      rintro _ X3 ⟨rfl, hb3⟩
      have hS3 := And.intro (blk_kept hS2.1 hb3) (blk_kept hS2.2 hb3)
      have kB3 := kB2.trans (hb3.mono kB2.size)
      have hz3 := blk_kept hz2 hb3
      refine ⟨hS3, ?_⟩
      simp only [Act.put, List.setIfInBounds_toArray, List.set_cons_zero, List.set_cons_succ]
      refine take_one (i := 8) (d := some 11) (v := .tuple #[.agg CC.toArray, .bool BB]) rfl rfl rfl (by kernel_rfl) (by kernel_rfl) (by kernel_rfl) (fun _ _ _ _ _ h => h.elim) (fun X hS => by kernel_rfl) hS3 ?_
      simp only [Act.put, List.setIfInBounds_toArray, List.set_cons_zero, List.set_cons_succ]
      refine take_one (i := 9) (d := some 20) (v := .agg CC.toArray) rfl rfl rfl (by kernel_rfl) (by kernel_rfl) (by kernel_rfl) (fun _ _ _ _ _ h => h.elim) (fun X hS => by kernel_rfl) hS3 ?_
      simp only [Act.put, List.setIfInBounds_toArray, List.set_cons_zero, List.set_cons_succ]
      refine take_one (i := 10) (d := some 21) (v := .bool BB) rfl rfl rfl (by kernel_rfl) (by kernel_rfl) (by kernel_rfl) (fun _ _ _ _ _ h => h.elim) (fun X hS => by kernel_rfl) hS3 ?_
      simp only [Act.put, List.setIfInBounds_toArray, List.set_cons_zero, List.set_cons_succ]
      obtain ⟨Xe, hst, bE, onE⟩ := box_store (ty := 85) (n := 18) (fun w => by kernel_rfl) hz3 rfl CC HCL.out.1 HCL.out.2
      have hne1 : b ≠ c := by have := (Array.getElem?_eq_some_iff.1 HST.out).1; omega
      have hne2 : W.heap.size ≠ c := by have := (Array.getElem?_eq_some_iff.1 HSA.out).1; omega
      have hSE := And.intro ((onE.other b hne1).trans hS3.1) ((onE.other _ hne2).trans hS3.2)
      refine all_one (i := 12) (by kernel_rfl) rfl rfl ?_
      refine wp_storeA (.tmp 6) (.tmp 20) 85 rfl rfl rfl rfl hst ⟨hSE, ?_⟩
      refine take_one (i := 13) (d := some 7) (v := .bool BB) rfl rfl rfl (by kernel_rfl) (by kernel_rfl) (by kernel_rfl) (fun _ _ _ _ _ h => h.elim) (fun X hS => by kernel_rfl) hSE ?_
      simp only [Act.put, List.setIfInBounds_toArray, List.set_cons_zero, List.set_cons_succ]
      refine wpAnyH_done (by kernel_rfl) ?_ _
      exact ⟨c, rfl, hcn, bE, kB3.trans (onE.below hcn)⟩
  · rintro a' w2 ⟨c, rfl, hcn, hc, hb2⟩
    simp only [Act.put, List.setIfInBounds_toArray, List.set_cons_zero, List.set_cons_succ]
    have HL2 : Hid _ := agg_load (t := 85) (n := 18) (fun w => by kernel_rfl) (fun w => by kernel_rfl) HCL.out.1 (CellsAt.of_blk hc)
    have HB2 : Hid (Below W1.heap.size W1 w2) := hb2
    clear hc hb2 HLG HK1 HSA HST HLU HKC
    go_wp2_with ((with_reducible show wpList _ _ _ ({ dst := _, op := Op.load 85 (Operand.tmp 6), type := _, pos := _, after := _, guard := _ } :: _) _ _); refine armLv (.tmp 6) 85 rfl rfl rfl HL2.out ?_)
    refine Calls.mono (HEC.out _) ?_
    rintro e3 w3 ⟨rfl, hb3⟩
    have hb13 := HB2.out.trans (hb3.mono HB2.out.size)
    obtain ⟨w4, hst4, hb4, ho4⟩ := box_store (ty := 47) (n := 6) (fun w => by kernel_rfl) (blk_on HSE.out hb13) (by rfl) EE HEL.out.1 HEL.out.2
    have HST4 : Hid _ := hst4
    have HLV : Hid ((loadVar 47 ⟨W.heap.size + 1, 0, none⟩).run Try.prog w4 = .ok (.agg EE.toArray) w4) := agg_loadVar (n := 6) (fun w => by kernel_rfl) (fun w => by kernel_rfl) HEL.out.1 (CellsAt.of_blk hb4)
    have HBF : Hid (Below W.heap.size W w4) := (HB1.out.trans (hb13.mono HB1.out.size)).trans (ho4.below (by omega))
    clear hst4 hb4 ho4 hb13 hb3 HEC HL2 HB2
    go_wp2_with ((with_reducible show wpList _ _ _ ({ dst := _, op := Op.store 47 (Operand.tmp 4) _, type := _, pos := _, after := _, guard := _ } :: _) _ _); refine armS (.tmp 4) (.tmp 23) 47 rfl rfl rfl rfl HST4.out ?_; try simp only [Act.put])
    exact bodyPost_ret (res2u (a := 4) (b := 5) rfl rfl rfl HLV.out) rfl (HQ.out _ _ ⟨rfl, HBF.out⟩)
set_option maxHeartbeats 4000000 in
set_option maxRecDepth 100000 in
theorem Best6_any {W : World} {b : Nat} {mk : Bool} {lim cnt : Int} {T4 T6 : Tr} (h : W.heap[b]? = some (.cells (tbC mk lim cnt T4 T6).toArray 76)) (hok : T6.Ok) (a : List Int) (ha : a.length = 16) (hf : FitB a) (L : List Ent) (hL : L = T6.walk (fun k => pre k (bitsK a 128))) :
    Calls Try.prog 15 #[.pointer (some ⟨b, 0, none⟩), .agg (u8s a).toArray] W fun e w' => e = .returned (.tuple #[.agg (enC (lastE L).1 (lastE L).2.1 (lastE L).2.2).toArray, .bool (lastB L)]) ∧ Below W.heap.size W w' := by
  obtain ⟨n, hn⟩ : ∃ n, W.heap.size = n := ⟨_, rfl⟩
  obtain ⟨W1, hW1⟩ : ∃ W1, W1 = (W.alloc (.cells (u8s a).toArray 37)).alloc (.cells zL.toArray 51) := ⟨_, rfl⟩
  have hB1 : Below W.heap.size W W1 := by rw [hW1]; exact ((Below.refl W.heap.size W).alloc (Nat.le_refl _) _).alloc (by simp) _
  have hsA : W1.heap[W.heap.size]? = some (.cells (u8s a).toArray 37) := by rw [hW1]; exact blk_alloc (blk_new W _) _
  have hsE : W1.heap[W.heap.size + 1]? = some (.cells zL.toArray 51) := by
    have := blk_new (W.alloc (.cells (u8s a).toArray 37)) (.cells zL.toArray 51)
    rw [show (W.alloc (.cells (u8s a).toArray 37)).heap.size = W.heap.size + 1 by simp] at this
    rw [hW1]; exact this
  have hsT := blk_on h hB1
  have hs1 : W1.heap.size = W.heap.size + 2 := by rw [hW1]; simp
  have hlu : (u8s a).length = 16 := by simp [u8s, ha]
  have HK1 : Hid (∀ X : World, (Instr.build 39 #[(0, .agg (u8s a).toArray), (1, .int .i64 128)]).run Try.prog X = .ok (KV (bitsK a 128)) X) := fun X => by rw [← P6_key hf ha]; exact build_k0 a ha X
  have hkl : (bitsK a 128).length ≤ 128 := by rw [bitsK_length]; exact Nat.le_refl _
  have HLG : Hid (∀ X : World, Calls Try.prog 42 #[enc T6, KV (bitsK a 128)] X fun e w' => e = .returned (.tuple #[.agg (lastC L).toArray, .bool (lastB L)]) ∧ Below X.heap.size X w') := fun X => by rw [hL]; exact longest_any T6 hok _ hkl X
  have HEC : Hid (∀ X : World, Calls Try.prog 45 #[.agg (lastC L).toArray] X fun e w' => e = .returned (.agg (enC (lastE L).1 (lastE L).2.1 (lastE L).2.2).toArray) ∧ Below X.heap.size X w') := fun X => by rw [lastC_E L]; exact entry6_any _ (lastE_len L) _ _ X
  have HCL : Hid ((lastC L).length = 18 ∧ ∀ u ∈ lastC L, u.oneCell' = true) := ⟨lastC_length L, lastC_one L⟩
  have HEL : Hid ((enC (lastE L).1 (lastE L).2.1 (lastE L).2.2).length = 18 ∧ ∀ u ∈ enC (lastE L).1 (lastE L).2.1 (lastE L).2.2, u.oneCell' = true) := ⟨by simp [enC_len, lastE_len], enC_one _ _ _⟩
  have HSA : Hid _ := hsA
  have HSE : Hid (W1.heap[W.heap.size + 1]? = some (.cells zL.toArray 51)) := hsE
  have HST : Hid (W1.heap[b]? = some (.cells (tbC mk lim cnt T4 T6).toArray 76)) := hsT
  have HB1 : Hid (Below W.heap.size W W1) := hB1
  have HLU : Hid ((u8s a).length = 16) := hlu
  have HS1 : Hid (W1.heap.size = W.heap.size + 2) := hs1
  have hTE := enc_one T6
  have HTE : Hid _ := hTE
  have hW := hW1.symm
  clear hsA hsE hsT hB1 hlu hs1 hW1 h hf hL hkl hTE
  obtain ⟨CC, hCC⟩ : ∃ CC, lastC L = CC := ⟨_, rfl⟩
  rw [hCC] at HLG HEC HCL
  clear hCC
  obtain ⟨BB, hBB⟩ : ∃ BB, lastB L = BB := ⟨_, rfl⟩
  rw [hBB] at HLG
  rw [hBB]
  clear hBB
  obtain ⟨EE, hEE⟩ : ∃ EE, enC (lastE L).1 (lastE L).2.1 (lastE L).2.2 = EE := ⟨_, rfl⟩
  rw [hEE] at HEC HEL
  rw [hEE]
  clear hEE
  obtain ⟨KK, hKK⟩ : ∃ KK, KV (bitsK a 128) = KK := ⟨_, rfl⟩
  rw [hKK] at HLG HK1
  clear hKK
  obtain ⟨UA, hUA⟩ : ∃ UA, u8s a = UA := ⟨_, rfl⟩
  rw [hUA] at HK1 HSA hW HLU
  rw [hUA]
  clear hUA
  generalize hQ : (fun (e : Ending) (w' : World) => e = .returned (.tuple #[.agg EE.toArray, .bool BB]) ∧ Below W.heap.size W w') = Q
  have HQ : Hid (∀ e w', e = .returned (.tuple #[.agg EE.toArray, .bool BB]) ∧ Below W.heap.size W w' → Q e w') := fun e w' hh => by rw [← hQ]; exact hh
  clear hQ hn
  go_enter Try.func15, Try.ntmps15
  go_wp2_with fail
  refine region_midT (fun a0 a' w' => ∃ c, a' = ((((((((((((a0.put (some 12) (.pointer (some ⟨b, 0, none⟩))).put (some 13) (.pointer (some ⟨b, 0, none⟩))).put (some 14) (.pointer (some ⟨b, 4, none⟩))).put (some 15) (enc T6)).put (some 16) (.agg UA.toArray)).put (some 17) (KK)).put (some 18) (.tuple #[.agg CC.toArray, .bool BB])).put (some 11) (.tuple #[.agg CC.toArray, .bool BB])).put (some 19) (.agg CC.toArray)).put (some 20) (.bool BB)).put (some 6) (.pointer (some ⟨c, 0, none⟩))).put (some 7) (.bool BB)) ∧ W1.heap.size ≤ c ∧ w'.heap[c]? = some (.cells CC.toArray 85) ∧ Below W1.heap.size W1 w') ?_ ?_
  · skip
    refine wp_region_held (S := (fun X => X.heap[b]? = some (.cells (tbC mk lim cnt T4 T6).toArray 76) ∧ X.heap[W.heap.size]? = some (.cells UA.toArray 37))) (by kernel_rfl) ?_
    show wpAnyH _ _ _ _ _ 13 (Array.replicate 13 false) _ _
    have hS0 : W1.drew.heap[b]? = some (.cells (tbC mk lim cnt T4 T6).toArray 76) ∧ W1.drew.heap[W.heap.size]? = some (.cells UA.toArray 37) := ⟨HST.out, HSA.out⟩
    have kB0 : Below W1.heap.size W1 W1.drew := (Below.refl _ W1).drew
    refine take_one (i := 0) (d := some 12) (v := .pointer (some ⟨b, 0, none⟩)) rfl rfl rfl (by kernel_rfl) (by kernel_rfl) (by kernel_rfl) (fun _ _ _ _ _ h => h.elim) (fun X hS => by kernel_rfl) hS0 ?_
    simp only [Act.put, List.setIfInBounds_toArray, List.set_cons_zero, List.set_cons_succ]
    refine take_one (i := 1) (d := some 13) (v := .pointer (some ⟨b, 0, none⟩)) rfl rfl rfl (by kernel_rfl) (by kernel_rfl) (by kernel_rfl) (fun _ _ _ _ _ h => h.elim) (fun X hS => by kernel_rfl) hS0 ?_
    simp only [Act.put, List.setIfInBounds_toArray, List.set_cons_zero, List.set_cons_succ]
    refine take_one (i := 2) (d := some 14) (v := .pointer (some ⟨b, 4, none⟩)) rfl rfl rfl (by kernel_rfl) (by kernel_rfl) (by kernel_rfl) (fun _ _ _ _ _ h => h.elim) (fun X hS => by kernel_rfl) hS0 ?_
    simp only [Act.put, List.setIfInBounds_toArray, List.set_cons_zero, List.set_cons_succ]
    refine take_one (i := 3) (d := some 15) (v := enc T6) rfl rfl rfl (by kernel_rfl) (by kernel_rfl) (by kernel_rfl) (fun _ _ _ _ _ h => h.elim) (fun X hS => ex_loadA (.tmp 14) 74 rfl rfl (ld_node4 hS.1)) hS0 ?_
    simp only [Act.put, List.setIfInBounds_toArray, List.set_cons_zero, List.set_cons_succ]
    refine take_one (i := 4) (d := some 16) (v := .agg UA.toArray) rfl rfl rfl (by kernel_rfl) (by kernel_rfl) (by kernel_rfl) (fun _ _ _ _ _ h => h.elim) (fun X hS => ex_loadA (.tmp 3) 37 rfl rfl (agg_load (n := 16) (fun w => by kernel_rfl) (fun w => by kernel_rfl) HLU.out (CellsAt.of_blk hS.2))) hS0 ?_
    simp only [Act.put, List.setIfInBounds_toArray, List.set_cons_zero, List.set_cons_succ]
    refine take_one (i := 5) (d := some 17) (v := KK) rfl rfl rfl (by kernel_rfl) (by kernel_rfl) (by kernel_rfl) (fun _ _ _ _ _ h => h.elim) (fun X hS => ex_buildA 39 [(0, .tmp 16), (1, .const (.int .i64 128))] rfl rfl (HK1.out X)) hS0 ?_
    simp only [Act.put, List.setIfInBounds_toArray, List.set_cons_zero, List.set_cons_succ]
    refine all_two (i1 := 6) (i2 := 10) (by kernel_rfl) rfl rfl rfl rfl ?_ ?_
    · skip
      refine wp_call (d := some 18) 42 _ rfl (by kernel_rfl) (callR (HLG.out _)) ?_
      rintro _ X1 ⟨rfl, hb1⟩
      have hS1 := And.intro (blk_kept hS0.1 hb1) (blk_kept hS0.2 hb1)
      have kB1 := kB0.trans (hb1.mono kB0.size)
      refine ⟨hS1, ?_⟩
      simp only [Act.put, List.setIfInBounds_toArray, List.set_cons_zero, List.set_cons_succ]
      refine take_one (i := 7) (d := some 11) (v := .tuple #[.agg CC.toArray, .bool BB]) rfl rfl rfl (by kernel_rfl) (by kernel_rfl) (by kernel_rfl) (fun _ _ _ _ _ h => h.elim) (fun X hS => by kernel_rfl) hS1 ?_
      simp only [Act.put, List.setIfInBounds_toArray, List.set_cons_zero, List.set_cons_succ]
      refine take_one (i := 8) (d := some 19) (v := .agg CC.toArray) rfl rfl rfl (by kernel_rfl) (by kernel_rfl) (by kernel_rfl) (fun _ _ _ _ _ h => h.elim) (fun X hS => by kernel_rfl) hS1 ?_
      simp only [Act.put, List.setIfInBounds_toArray, List.set_cons_zero, List.set_cons_succ]
      refine take_one (i := 9) (d := some 20) (v := .bool BB) rfl rfl rfl (by kernel_rfl) (by kernel_rfl) (by kernel_rfl) (fun _ _ _ _ _ h => h.elim) (fun X hS => by kernel_rfl) hS1 ?_
      simp only [Act.put, List.setIfInBounds_toArray, List.set_cons_zero, List.set_cons_succ]
      refine all_one (i := 10) (by kernel_rfl) rfl rfl ?_
      refine wp_newT (d := some 6) (v := fun c => .pointer (some ⟨c, 0, none⟩)) (z := .cells zL.toArray 85) rfl (by kernel_rfl) ?_
      rintro c X2 hc hz2 hb2
      have hcn : W1.heap.size ≤ c := by rw [hc]; exact kB1.size
      have hS2 := And.intro (blk_kept hS1.1 hb2) (blk_kept hS1.2 hb2)
      have kB2 := kB1.trans (hb2.mono kB1.size)
      refine ⟨hS2, ?_⟩
      simp only [Act.put, List.setIfInBounds_toArray, List.set_cons_zero, List.set_cons_succ]
      obtain ⟨Xe, hst, bE, onE⟩ := box_store (ty := 85) (n := 18) (fun w => by kernel_rfl) hz2 rfl CC HCL.out.1 HCL.out.2
      have hne1 : b ≠ c := by have := (Array.getElem?_eq_some_iff.1 HST.out).1; omega
      have hne2 : W.heap.size ≠ c := by have := (Array.getElem?_eq_some_iff.1 HSA.out).1; omega
      have hSE := And.intro ((onE.other b hne1).trans hS2.1) ((onE.other _ hne2).trans hS2.2)
      refine all_one (i := 11) (by kernel_rfl) rfl rfl ?_
      refine wp_storeA (.tmp 6) (.tmp 19) 85 rfl rfl rfl rfl hst ⟨hSE, ?_⟩
      refine take_one (i := 12) (d := some 7) (v := .bool BB) rfl rfl rfl (by kernel_rfl) (by kernel_rfl) (by kernel_rfl) (fun _ _ _ _ _ h => h.elim) (fun X hS => by kernel_rfl) hSE ?_
      simp only [Act.put, List.setIfInBounds_toArray, List.set_cons_zero, List.set_cons_succ]
      refine wpAnyH_done (by kernel_rfl) ?_ _
      exact ⟨c, rfl, hcn, bE, kB2.trans (onE.below hcn)⟩
    · skip
      refine wp_newT (d := some 6) (v := fun c => .pointer (some ⟨c, 0, none⟩)) (z := .cells zL.toArray 85) rfl (by kernel_rfl) ?_
      rintro c X1 hc hz1 hb1
      have hcn : W1.heap.size ≤ c := by rw [hc]; exact kB0.size
      have hS1 := And.intro (blk_kept hS0.1 hb1) (blk_kept hS0.2 hb1)
      have kB1 := kB0.trans (hb1.mono kB0.size)
      refine ⟨hS1, ?_⟩
      simp only [Act.put, List.setIfInBounds_toArray, List.set_cons_zero, List.set_cons_succ]
      refine all_one (i := 6) (by kernel_rfl) rfl rfl ?_
      refine wp_call (d := some 18) 42 _ rfl (by kernel_rfl) (callR (HLG.out _)) ?_
      rintro _ X2 ⟨rfl, hb2⟩
      have hS2 := And.intro (blk_kept hS1.1 hb2) (blk_kept hS1.2 hb2)
      have kB2 := kB1.trans (hb2.mono kB1.size)
      have hz2 := blk_kept hz1 hb2
      refine ⟨hS2, ?_⟩
      simp only [Act.put, List.setIfInBounds_toArray, List.set_cons_zero, List.set_cons_succ]
      refine take_one (i := 7) (d := some 11) (v := .tuple #[.agg CC.toArray, .bool BB]) rfl rfl rfl (by kernel_rfl) (by kernel_rfl) (by kernel_rfl) (fun _ _ _ _ _ h => h.elim) (fun X hS => by kernel_rfl) hS2 ?_
      simp only [Act.put, List.setIfInBounds_toArray, List.set_cons_zero, List.set_cons_succ]
      refine take_one (i := 8) (d := some 19) (v := .agg CC.toArray) rfl rfl rfl (by kernel_rfl) (by kernel_rfl) (by kernel_rfl) (fun _ _ _ _ _ h => h.elim) (fun X hS => by kernel_rfl) hS2 ?_
      simp only [Act.put, List.setIfInBounds_toArray, List.set_cons_zero, List.set_cons_succ]
      refine take_one (i := 9) (d := some 20) (v := .bool BB) rfl rfl rfl (by kernel_rfl) (by kernel_rfl) (by kernel_rfl) (fun _ _ _ _ _ h => h.elim) (fun X hS => by kernel_rfl) hS2 ?_
      simp only [Act.put, List.setIfInBounds_toArray, List.set_cons_zero, List.set_cons_succ]
      obtain ⟨Xe, hst, bE, onE⟩ := box_store (ty := 85) (n := 18) (fun w => by kernel_rfl) hz2 rfl CC HCL.out.1 HCL.out.2
      have hne1 : b ≠ c := by have := (Array.getElem?_eq_some_iff.1 HST.out).1; omega
      have hne2 : W.heap.size ≠ c := by have := (Array.getElem?_eq_some_iff.1 HSA.out).1; omega
      have hSE := And.intro ((onE.other b hne1).trans hS2.1) ((onE.other _ hne2).trans hS2.2)
      refine all_one (i := 11) (by kernel_rfl) rfl rfl ?_
      refine wp_storeA (.tmp 6) (.tmp 19) 85 rfl rfl rfl rfl hst ⟨hSE, ?_⟩
      refine take_one (i := 12) (d := some 7) (v := .bool BB) rfl rfl rfl (by kernel_rfl) (by kernel_rfl) (by kernel_rfl) (fun _ _ _ _ _ h => h.elim) (fun X hS => by kernel_rfl) hSE ?_
      simp only [Act.put, List.setIfInBounds_toArray, List.set_cons_zero, List.set_cons_succ]
      refine wpAnyH_done (by kernel_rfl) ?_ _
      exact ⟨c, rfl, hcn, bE, kB2.trans (onE.below hcn)⟩
  · rintro a' w2 ⟨c, rfl, hcn, hc, hb2⟩
    simp only [Act.put, List.setIfInBounds_toArray, List.set_cons_zero, List.set_cons_succ]
    have HL2 : Hid _ := agg_load (t := 85) (n := 18) (fun w => by kernel_rfl) (fun w => by kernel_rfl) HCL.out.1 (CellsAt.of_blk hc)
    have HB2 : Hid (Below W1.heap.size W1 w2) := hb2
    clear hc hb2 HLG HK1 HSA HST HLU
    go_wp2_with ((with_reducible show wpList _ _ _ ({ dst := _, op := Op.load 85 (Operand.tmp 6), type := _, pos := _, after := _, guard := _ } :: _) _ _); refine armLv (.tmp 6) 85 rfl rfl rfl HL2.out ?_)
    refine Calls.mono (HEC.out _) ?_
    rintro e3 w3 ⟨rfl, hb3⟩
    have hb13 := HB2.out.trans (hb3.mono HB2.out.size)
    obtain ⟨w4, hst4, hb4, ho4⟩ := box_store (ty := 51) (n := 18) (fun w => by kernel_rfl) (blk_on HSE.out hb13) (by rfl) EE HEL.out.1 HEL.out.2
    have HST4 : Hid _ := hst4
    have HLV : Hid ((loadVar 51 ⟨W.heap.size + 1, 0, none⟩).run Try.prog w4 = .ok (.agg EE.toArray) w4) := agg_loadVar (n := 18) (fun w => by kernel_rfl) (fun w => by kernel_rfl) HEL.out.1 (CellsAt.of_blk hb4)
    have HBF : Hid (Below W.heap.size W w4) := (HB1.out.trans (hb13.mono HB1.out.size)).trans (ho4.below (by omega))
    clear hst4 hb4 ho4 hb13 hb3 HEC HL2 HB2
    go_wp2_with ((with_reducible show wpList _ _ _ ({ dst := _, op := Op.store 51 (Operand.tmp 4) _, type := _, pos := _, after := _, guard := _ } :: _) _ _); refine armS (.tmp 4) (.tmp 22) 51 rfl rfl rfl rfl HST4.out ?_; try simp only [Act.put])
    exact bodyPost_ret (res2u (a := 4) (b := 5) rfl rfl rfl HLV.out) rfl (HQ.out _ _ ⟨rfl, HBF.out⟩)
end Go.Proofs.Ytabmkbhmgfneiaa
