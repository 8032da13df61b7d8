/-
  Best4, Best6 of a table of package trie.
  Tables of package trie: nobody's Best4, Best6; New; put of a new entry.
-/
import Derived.Test.YtenahbdopgmpfaaFold20
import Derived.Test.YtenahbdopgmpfaaFold03
import Derived.BigRegion
namespace Go.Proofs.Ytenahbdopgmpfaa
open Go Go.RowKit Go.Shelf
set_option linter.unusedVariables false
set_option linter.unusedSimpArgs false

def tbC (mk : Bool) (lim cnt : Int) (T4 T6 : Tr) : List Value := [.bool mk, .int .i64 lim, .int .i64 cnt, enc T4, enc T6]
def lastE (l : List Ent) : List Int × Int × Int := match l.getLast? with | none => (List.replicate 16 0, 0, 0) | some e => (bytN 16 e.1, e.1.length, e.2)
theorem lastE_len (l : List Ent) : (lastE l).1.length = 16 := by
  unfold lastE
  split
  · rfl
  · exact bytN_length _ _
theorem lastC_E (l : List Ent) : lastC l = enC (lastE l).1 (lastE l).2.1 (lastE l).2.2 := by
  unfold lastC lastE
  cases l.getLast? <;> rfl
theorem region_midT {P : Program} {id : Nat} {ops : Array Oper} {Q : Exit → Act → World → Prop} {a : Act} {w : World} (M : Act → Act → World → Prop) (h : (Code.region id ops true).wp P (fun e a' w' => match e with | .normal => M a a' w' | _ => False) a w) (hM : ∀ a' w', M a a' w' → Q .normal a' w') : (Code.region id ops true).wp P Q a w :=
  wp_mono h (fun e a' w' hm => by cases e <;> first | exact hM a' w' hm | exact hm.elim)
theorem wp_newT {P : Program} {o : Oper} {a : Act} {d : Option Nat} {w : World} {v : Nat → Value} {z : Obj} {K : Act → World → Prop} {Q : Exit → Act → World → Prop} (hd : o.dst = d) (hrun : (execOp a.eval o).run P w = .ok (.value (v w.heap.size)) (w.alloc z))
    (hK : ∀ c W', c = w.heap.size → W'.heap[c]? = some z → Below w.heap.size w W' → K (a.put d (v c)) W') : o.wp P a w K Q := by
  subst hd
  unfold Oper.wp
  rw [hrun]
  exact hK _ _ rfl (blk_new w z) ((Below.refl w.heap.size w).alloc (Nat.le_refl _) z)
theorem res2u {P : Program} {fn : Func} {a b : Tmp} {t : TypeId} (h : fn.results = #[.cell a t, .tmp b]) {tmps : Array Value} {R : Addr} (hp : tmps.getD a undef = .pointer (some R)) {y : Value} (hy : tmps.getD b undef = y) {v : Value} {w : World} (hl : (loadVar t R).run P w = .ok v w) :
    (results fn tmps).run P w = .ok (.tuple #[v, y]) w := by
  rw [Array.getD_eq_getD_getElem?] at hp hy
  simp [results, h, hp, hy, asAddr, hl]
theorem build_p4 (a : List Int) (ha : a.length = 4) (n : Int) (W : World) : (Instr.build 35 #[(0, .agg (u8s a).toArray), (1, .int .i64 n)]).run Try.prog W = .ok (.agg (cp6 a n).toArray) W := by
  match a, ha with
  | [x0, x1, x2, x3], _ => exact run_build W _ _ _ (by kernel_rfl)
theorem P4_key {a : List Int} (hf : FitB a) (ha : a.length = 4) : (.agg (cp6 (a ++ List.replicate 12 0) 32).toArray : Value) = KV (bitsK (a ++ List.replicate 12 0) 32) := by
  have hl : (a ++ List.replicate 12 (0 : Int)).length = 16 := by simp [ha]
  have hf2 : FitB (a ++ List.replicate 12 (0 : Int)) := fun z hz => by
    rcases List.mem_append.1 hz with h | h
    · exact hf z h
    · rw [(List.mem_replicate.1 h).2]; omega
  have key : a ++ List.replicate 12 (0 : Int) = bytN 16 (bitsK (a ++ List.replicate 12 0) 32) := by
    refine row_ext (by rw [bytN_length, hl]) hf2 (bytN_fit _ _) (fun p hp => ?_)
    rw [hl] at hp
    rw [bitN_bytN _ _ _ (by omega), bt_bitsK]
    by_cases h32 : p < 32
    · rw [if_pos h32]
    · rw [if_neg h32]
      unfold bitN
      have : (a ++ List.replicate 12 (0 : Int))[p / 8]?.getD 0 = 0 := by
        rw [List.getElem?_append_right (by omega)]
        by_cases h12 : p / 8 - a.length < 12
        · rw [List.getElem?_replicate, if_pos h12]; rfl
        · rw [List.getElem?_replicate, if_neg h12]; rfl
      rw [this]
      simp [bk]
  show Value.agg (cp6 _ 32).toArray = Value.agg (cp6 (bytN 16 _) (bitsK _ 32).length).toArray
  rw [← key, bitsK_length]
  rfl
theorem ld_node3 {W : World} {b : Nat} {mk : Bool} {lim cnt : Int} {T4 T6 : Tr} (h : W.heap[b]? = some (.cells (tbC mk lim cnt T4 T6).toArray 76)) : (Instr.loadAt 74 (.pointer (some ⟨b, 3, none⟩))).run Try.prog W = .ok (enc T4) W := by
  have c : W.cell? ⟨b, 3, none⟩ = some (enc T4) := blk_cell h rfl
  simp [Instr.loadAt, go_sem, c]
theorem ld_node4 {W : World} {b : Nat} {mk : Bool} {lim cnt : Int} {T4 T6 : Tr} (h : W.heap[b]? = some (.cells (tbC mk lim cnt T4 T6).toArray 76)) : (Instr.loadAt 74 (.pointer (some ⟨b, 4, none⟩))).run Try.prog W = .ok (enc T6) W := by
  have c : W.cell? ⟨b, 4, none⟩ = some (enc T6) := blk_cell h rfl
  simp [Instr.loadAt, go_sem, c]
set_option maxHeartbeats 4000000 in
set_option maxRecDepth 100000 in
theorem Best4_any {W : World} {b : Nat} {mk : Bool} {lim cnt : Int} {T4 T6 : Tr} (h : W.heap[b]? = some (.cells (tbC mk lim cnt T4 T6).toArray 76)) (hok : T4.Ok) (a : List Int) (ha : a.length = 4) (hf : FitB a) (L : List Ent) (hL : L = T4.walk (fun k => pre k (bitsK (a ++ List.replicate 12 0) 32))) :
    Calls Try.prog 14 #[.pointer (some ⟨b, 0, none⟩), .agg (u8s a).toArray] W fun e w' => e = .returned (.tuple #[.agg (enC ((lastE L).1.take 4) (lastE L).2.1 (lastE L).2.2).toArray, .bool (lastB L)]) ∧ Below W.heap.size W w' := by
  obtain ⟨n, hn⟩ : ∃ n, W.heap.size = n := ⟨_, rfl⟩
  obtain ⟨W1, hW1⟩ : ∃ W1, W1 = (W.alloc (.cells (u8s a).toArray 33)).alloc (.cells [.int .u8 0, .int .u8 0, .int .u8 0, .int .u8 0, .int .i64 0, .int .i64 0].toArray 47) := ⟨_, rfl⟩
  have hB1 : Below W.heap.size W W1 := by rw [hW1]; exact ((Below.refl W.heap.size W).alloc (Nat.le_refl _) _).alloc (by simp) _
  have hsA : W1.heap[W.heap.size]? = some (.cells (u8s a).toArray 33) := by rw [hW1]; exact blk_alloc (blk_new W _) _
  have hsE : W1.heap[W.heap.size + 1]? = some (.cells [.int .u8 0, .int .u8 0, .int .u8 0, .int .u8 0, .int .i64 0, .int .i64 0].toArray 47) := by
    have := blk_new (W.alloc (.cells (u8s a).toArray 33)) (.cells [.int .u8 0, .int .u8 0, .int .u8 0, .int .u8 0, .int .i64 0, .int .i64 0].toArray 47)
    rw [show (W.alloc (.cells (u8s a).toArray 33)).heap.size = W.heap.size + 1 by simp] at this
    rw [hW1]; exact this
  have hsT := blk_on h hB1
  have hs1 : W1.heap.size = W.heap.size + 2 := by rw [hW1]; simp
  have hlu : (u8s a).length = 4 := by simp [u8s, ha]
  have HK1 : Hid (∀ X : World, (Instr.build 35 #[(0, .agg (u8s a).toArray), (1, .int .i64 32)]).run Try.prog X = .ok (.agg (cp6 a 32).toArray) X) := fun X => build_p4 a ha 32 X
  have HKC : Hid (∀ X : World, Calls Try.prog 43 #[.agg (cp6 a 32).toArray] X fun e w' => e = .returned (KV (bitsK (a ++ List.replicate 12 0) 32)) ∧ Below X.heap.size X w') := fun X => by rw [← P4_key hf ha]; exact key4_any a ha 32 X
  have hkl : (bitsK (a ++ List.replicate 12 0) 32).length ≤ 128 := by rw [bitsK_length]; decide
  have HLG : Hid (∀ X : World, Calls Try.prog 42 #[enc T4, KV (bitsK (a ++ List.replicate 12 0) 32)] X fun e w' => e = .returned (.tuple #[.agg (lastC L).toArray, .bool (lastB L)]) ∧ Below X.heap.size X w') := fun X => by rw [hL]; exact longest_any T4 hok _ hkl X
  have HEC : Hid (∀ X : World, Calls Try.prog 44 #[.agg (lastC L).toArray] X fun e w' => e = .returned (.agg (enC ((lastE L).1.take 4) (lastE L).2.1 (lastE L).2.2).toArray) ∧ Below X.heap.size X w') := fun X => by rw [lastC_E L]; exact entry4_any _ (lastE_len L) _ _ X
  have HCL : Hid ((lastC L).length = 18 ∧ ∀ u ∈ lastC L, u.oneCell' = true) := ⟨lastC_length L, lastC_one L⟩
  have HEL : Hid ((enC ((lastE L).1.take 4) (lastE L).2.1 (lastE L).2.2).length = 6 ∧ ∀ u ∈ enC ((lastE L).1.take 4) (lastE L).2.1 (lastE L).2.2, u.oneCell' = true) := ⟨by simp [enC_len, lastE_len], enC_one _ _ _⟩
  have HSA : Hid _ := hsA
  have HSE : Hid (W1.heap[W.heap.size + 1]? = some (.cells [.int .u8 0, .int .u8 0, .int .u8 0, .int .u8 0, .int .i64 0, .int .i64 0].toArray 47)) := hsE
  have HST : Hid (W1.heap[b]? = some (.cells (tbC mk lim cnt T4 T6).toArray 76)) := hsT
  have HB1 : Hid (Below W.heap.size W W1) := hB1
  have HLU : Hid ((u8s a).length = 4) := hlu
  have HS1 : Hid (W1.heap.size = W.heap.size + 2) := hs1
  have hTE := enc_one T4
  have HTE : Hid _ := hTE
  have hW := hW1.symm
  clear hsA hsE hsT hB1 hlu hs1 hW1 h hf hL hkl hTE
  obtain ⟨CC, hCC⟩ : ∃ CC, lastC L = CC := ⟨_, rfl⟩
  rw [hCC] at HLG HEC HCL
  clear hCC
  obtain ⟨BB, hBB⟩ : ∃ BB, lastB L = BB := ⟨_, rfl⟩
  rw [hBB] at HLG
  rw [hBB]
  clear hBB
  obtain ⟨EE, hEE⟩ : ∃ EE, enC ((lastE L).1.take 4) (lastE L).2.1 (lastE L).2.2 = EE := ⟨_, rfl⟩
  rw [hEE] at HEC HEL
  rw [hEE]
  clear hEE
  obtain ⟨KK, hKK⟩ : ∃ KK, KV (bitsK (a ++ List.replicate 12 0) 32) = KK := ⟨_, rfl⟩
  rw [hKK] at HLG HKC
  clear hKK
  obtain ⟨UA, hUA⟩ : ∃ UA, u8s a = UA := ⟨_, rfl⟩
  rw [hUA] at HK1 HSA hW HLU
  rw [hUA]
  clear hUA
  obtain ⟨PP, hPP⟩ : ∃ PP, (.agg (cp6 a 32).toArray : Value) = PP := ⟨_, rfl⟩
  rw [hPP] at HK1 HKC
  clear hPP
  generalize hQ : (fun (e : Ending) (w' : World) => e = .returned (.tuple #[.agg EE.toArray, .bool BB]) ∧ Below W.heap.size W w') = Q
  have HQ : Hid (∀ e w', e = .returned (.tuple #[.agg EE.toArray, .bool BB]) ∧ Below W.heap.size W w' → Q e w') := fun e w' hh => by rw [← hQ]; exact hh
  clear hQ hn
  go_enter Try.func14, Try.ntmps14
  go_wp2_with fail
  refine region_midT (fun a0 a' w' => ∃ c, a' = (((((((((((((a0.put (some 12) (.pointer (some ⟨b, 0, none⟩))).put (some 13) (.pointer (some ⟨b, 0, none⟩))).put (some 14) (.pointer (some ⟨b, 3, none⟩))).put (some 15) (enc T4)).put (some 16) (.agg UA.toArray)).put (some 17) (PP)).put (some 18) (KK)).put (some 19) (.tuple #[.agg CC.toArray, .bool BB])).put (some 11) (.tuple #[.agg CC.toArray, .bool BB])).put (some 20) (.agg CC.toArray)).put (some 21) (.bool BB)).put (some 6) (.pointer (some ⟨c, 0, none⟩))).put (some 7) (.bool BB)) ∧ W1.heap.size ≤ c ∧ w'.heap[c]? = some (.cells CC.toArray 85) ∧ Below W1.heap.size W1 w') ?_ ?_
  · skip
    refine wp_region_held (S := (fun X => X.heap[b]? = some (.cells (tbC mk lim cnt T4 T6).toArray 76) ∧ X.heap[W.heap.size]? = some (.cells UA.toArray 33))) (by kernel_rfl) ?_
    show wpAnyH _ _ _ _ _ 14 (Array.replicate 14 false) _ _
    have hS0 : W1.drew.heap[b]? = some (.cells (tbC mk lim cnt T4 T6).toArray 76) ∧ W1.drew.heap[W.heap.size]? = some (.cells UA.toArray 33) := ⟨HST.out, HSA.out⟩
    have kB0 : Below W1.heap.size W1 W1.drew := (Below.refl _ W1).drew
    refine take_one (i := 0) (d := some 12) (v := .pointer (some ⟨b, 0, none⟩)) rfl rfl rfl (by kernel_rfl) (by kernel_rfl) (by kernel_rfl) (fun _ _ _ _ _ h => h.elim) (fun X hS => by kernel_rfl) hS0 ?_
    simp only [Act.put, List.setIfInBounds_toArray, List.set_cons_zero, List.set_cons_succ]
    refine take_one (i := 1) (d := some 13) (v := .pointer (some ⟨b, 0, none⟩)) rfl rfl rfl (by kernel_rfl) (by kernel_rfl) (by kernel_rfl) (fun _ _ _ _ _ h => h.elim) (fun X hS => by kernel_rfl) hS0 ?_
    simp only [Act.put, List.setIfInBounds_toArray, List.set_cons_zero, List.set_cons_succ]
    refine take_one (i := 2) (d := some 14) (v := .pointer (some ⟨b, 3, none⟩)) rfl rfl rfl (by kernel_rfl) (by kernel_rfl) (by kernel_rfl) (fun _ _ _ _ _ h => h.elim) (fun X hS => by kernel_rfl) hS0 ?_
    simp only [Act.put, List.setIfInBounds_toArray, List.set_cons_zero, List.set_cons_succ]
    refine take_one (i := 3) (d := some 15) (v := enc T4) rfl rfl rfl (by kernel_rfl) (by kernel_rfl) (by kernel_rfl) (fun _ _ _ _ _ h => h.elim) (fun X hS => ex_loadA (.tmp 14) 74 rfl rfl (ld_node3 hS.1)) hS0 ?_
    simp only [Act.put, List.setIfInBounds_toArray, List.set_cons_zero, List.set_cons_succ]
    refine take_one (i := 4) (d := some 16) (v := .agg UA.toArray) rfl rfl rfl (by kernel_rfl) (by kernel_rfl) (by kernel_rfl) (fun _ _ _ _ _ h => h.elim) (fun X hS => ex_loadA (.tmp 3) 33 rfl rfl (agg_load (n := 4) (fun w => by kernel_rfl) (fun w => by kernel_rfl) HLU.out (CellsAt.of_blk hS.2))) hS0 ?_
    simp only [Act.put, List.setIfInBounds_toArray, List.set_cons_zero, List.set_cons_succ]
    refine take_one (i := 5) (d := some 17) (v := PP) rfl rfl rfl (by kernel_rfl) (by kernel_rfl) (by kernel_rfl) (fun _ _ _ _ _ h => h.elim) (fun X hS => ex_buildA 35 [(0, .tmp 16), (1, .const (.int .i64 32))] rfl rfl (HK1.out X)) hS0 ?_
    simp only [Act.put, List.setIfInBounds_toArray, List.set_cons_zero, List.set_cons_succ]
    refine all_two (i1 := 6) (i2 := 11) (by kernel_rfl) rfl rfl rfl rfl ?_ ?_
    · skip
      refine wp_call (d := some 18) 43 _ rfl (by kernel_rfl) (callR (HKC.out _)) ?_
      rintro _ X1 ⟨rfl, hb1⟩
      have hS1 := And.intro (blk_kept hS0.1 hb1) (blk_kept hS0.2 hb1)
      have kB1 := kB0.trans (hb1.mono kB0.size)
      refine ⟨hS1, ?_⟩
      simp only [Act.put, List.setIfInBounds_toArray, List.set_cons_zero, List.set_cons_succ]
      refine all_two (i1 := 7) (i2 := 11) (by kernel_rfl) rfl rfl rfl rfl ?_ ?_
      · skip
        refine wp_call (d := some 19) 42 _ rfl (by kernel_rfl) (callR (HLG.out _)) ?_
        rintro _ X2 ⟨rfl, hb2⟩
        have hS2 := And.intro (blk_kept hS1.1 hb2) (blk_kept hS1.2 hb2)
        have kB2 := kB1.trans (hb2.mono kB1.size)
        refine ⟨hS2, ?_⟩
        simp only [Act.put, List.setIfInBounds_toArray, List.set_cons_zero, List.set_cons_succ]
        refine take_one (i := 8) (d := some 11) (v := .tuple #[.agg CC.toArray, .bool BB]) rfl rfl rfl (by kernel_rfl) (by kernel_rfl) (by kernel_rfl) (fun _ _ _ _ _ h => h.elim) (fun X hS => by kernel_rfl) hS2 ?_
        simp only [Act.put, List.setIfInBounds_toArray, List.set_cons_zero, List.set_cons_succ]
        refine take_one (i := 9) (d := some 20) (v := .agg CC.toArray) rfl rfl rfl (by kernel_rfl) (by kernel_rfl) (by kernel_rfl) (fun _ _ _ _ _ h => h.elim) (fun X hS => by kernel_rfl) hS2 ?_
        simp only [Act.put, List.setIfInBounds_toArray, List.set_cons_zero, List.set_cons_succ]
        refine take_one (i := 10) (d := some 21) (v := .bool BB) rfl rfl rfl (by kernel_rfl) (by kernel_rfl) (by kernel_rfl) (fun _ _ _ _ _ h => h.elim) (fun X hS => by kernel_rfl) hS2 ?_
        simp only [Act.put, List.setIfInBounds_toArray, List.set_cons_zero, List.set_cons_succ]
        refine all_one (i := 11) (by kernel_rfl) rfl rfl ?_
        refine wp_newT (d := some 6) (v := fun c => .pointer (some ⟨c, 0, none⟩)) (z := .cells zL.toArray 85) rfl (by kernel_rfl) ?_
        rintro c X3 hc hz3 hb3
        have hcn : W1.heap.size ≤ c := by rw [hc]; exact kB2.size
        have hS3 := And.intro (blk_kept hS2.1 hb3) (blk_kept hS2.2 hb3)
        have kB3 := kB2.trans (hb3.mono kB2.size)
        refine ⟨hS3, ?_⟩
        simp only [Act.put, List.setIfInBounds_toArray, List.set_cons_zero, List.set_cons_succ]
        obtain ⟨Xe, hst, bE, onE⟩ := box_store (ty := 85) (n := 18) (fun w => by kernel_rfl) hz3 rfl CC HCL.out.1 HCL.out.2
        have hne1 : b ≠ c := by have := (Array.getElem?_eq_some_iff.1 HST.out).1; omega
        have hne2 : W.heap.size ≠ c := by have := (Array.getElem?_eq_some_iff.1 HSA.out).1; omega
        have hSE := And.intro ((onE.other b hne1).trans hS3.1) ((onE.other _ hne2).trans hS3.2)
        refine all_one (i := 12) (by kernel_rfl) rfl rfl ?_
        refine wp_storeA (.tmp 6) (.tmp 20) 85 rfl rfl rfl rfl hst ⟨hSE, ?_⟩
        refine take_one (i := 13) (d := some 7) (v := .bool BB) rfl rfl rfl (by kernel_rfl) (by kernel_rfl) (by kernel_rfl) (fun _ _ _ _ _ h => h.elim) (fun X hS => by kernel_rfl) hSE ?_
        simp only [Act.put, List.setIfInBounds_toArray, List.set_cons_zero, List.set_cons_succ]
        refine wpAnyH_done (by kernel_rfl) ?_ _
        exact ⟨c, rfl, hcn, bE, kB3.trans (onE.below hcn)⟩
      · skip
        refine wp_newT (d := some 6) (v := fun c => .pointer (some ⟨c, 0, none⟩)) (z := .cells zL.toArray 85) rfl (by kernel_rfl) ?_
        rintro c X2 hc hz2 hb2
        have hcn : W1.heap.size ≤ c := by rw [hc]; exact kB1.size
        have hS2 := And.intro (blk_kept hS1.1 hb2) (blk_kept hS1.2 hb2)
        have kB2 := kB1.trans (hb2.mono kB1.size)
        refine ⟨hS2, ?_⟩
        simp only [Act.put, List.setIfInBounds_toArray, List.set_cons_zero, List.set_cons_succ]
        refine all_one (i := 7) (by kernel_rfl) rfl rfl ?_
        refine wp_call (d := some 19) 42 _ rfl (by kernel_rfl) (callR (HLG.out _)) ?_
        rintro _ X3 ⟨rfl, hb3⟩
        have hS3 := And.intro (blk_kept hS2.1 hb3) (blk_kept hS2.2 hb3)
        have kB3 := kB2.trans (hb3.mono kB2.size)
        have hz3 := blk_kept hz2 hb3
        refine ⟨hS3, ?_⟩
        simp only [Act.put, List.setIfInBounds_toArray, List.set_cons_zero, List.set_cons_succ]
        refine take_one (i := 8) (d := some 11) (v := .tuple #[.agg CC.toArray, .bool BB]) rfl rfl rfl (by kernel_rfl) (by kernel_rfl) (by kernel_rfl) (fun _ _ _ _ _ h => h.elim) (fun X hS => by kernel_rfl) hS3 ?_
        simp only [Act.put, List.setIfInBounds_toArray, List.set_cons_zero, List.set_cons_succ]
        refine take_one (i := 9) (d := some 20) (v := .agg CC.toArray) rfl rfl rfl (by kernel_rfl) (by kernel_rfl) (by kernel_rfl) (fun _ _ _ _ _ h => h.elim) (fun X hS => by kernel_rfl) hS3 ?_
        simp only [Act.put, List.setIfInBounds_toArray, List.set_cons_zero, List.set_cons_succ]
        refine take_one (i := 10) (d := some 21) (v := .bool BB) rfl rfl rfl (by kernel_rfl) (by kernel_rfl) (by kernel_rfl) (fun _ _ _ _ _ h => h.elim) (fun X hS => by kernel_rfl) hS3 ?_
        simp only [Act.put, List.setIfInBounds_toArray, List.set_cons_zero, List.set_cons_succ]
        obtain ⟨Xe, hst, bE, onE⟩ := box_store (ty := 85) (n := 18) (fun w => by kernel_rfl) hz3 rfl CC HCL.out.1 HCL.out.2
        have hne1 : b ≠ c := by have := (Array.getElem?_eq_some_iff.1 HST.out).1; omega
        have hne2 : W.heap.size ≠ c := by have := (Array.getElem?_eq_some_iff.1 HSA.out).1; omega
        have hSE := And.intro ((onE.other b hne1).trans hS3.1) ((onE.other _ hne2).trans hS3.2)
        refine all_one (i := 12) (by kernel_rfl) rfl rfl ?_
        refine wp_storeA (.tmp 6) (.tmp 20) 85 rfl rfl rfl rfl hst ⟨hSE, ?_⟩
        refine take_one (i := 13) (d := some 7) (v := .bool BB) rfl rfl rfl (by kernel_rfl) (by kernel_rfl) (by kernel_rfl) (fun _ _ _ _ _ h => h.elim) (fun X hS => by kernel_rfl) hSE ?_
        simp only [Act.put, List.setIfInBounds_toArray, List.set_cons_zero, List.set_cons_succ]
        refine wpAnyH_done (by kernel_rfl) ?_ _
        exact ⟨c, rfl, hcn, bE, kB3.trans (onE.below hcn)⟩
    · skip
      refine wp_newT (d := some 6) (v := fun c => .pointer (some ⟨c, 0, none⟩)) (z := .cells zL.toArray 85) rfl (by kernel_rfl) ?_
      rintro c X1 hc hz1 hb1
      have hcn : W1.heap.size ≤ c := by rw [hc]; exact kB0.size
      have hS1 := And.intro (blk_kept hS0.1 hb1) (blk_kept hS0.2 hb1)
      have kB1 := kB0.trans (hb1.mono kB0.size)
      refine ⟨hS1, ?_⟩
      simp only [Act.put, List.setIfInBounds_toArray, List.set_cons_zero, List.set_cons_succ]
      refine all_one (i := 6) (by kernel_rfl) rfl rfl ?_
      refine wp_call (d := some 18) 43 _ rfl (by kernel_rfl) (callR (HKC.out _)) ?_
      rintro _ X2 ⟨rfl, hb2⟩
      have hS2 := And.intro (blk_kept hS1.1 hb2) (blk_kept hS1.2 hb2)
      have kB2 := kB1.trans (hb2.mono kB1.size)
      have hz2 := blk_kept hz1 hb2
      refine ⟨hS2, ?_⟩
      simp only [Act.put, List.setIfInBounds_toArray, List.set_cons_zero, List.set_cons_succ]
      refine all_one (i := 7) (by kernel_rfl) rfl rfl ?_
      refine wp_call (d := some 19) 42 _ rfl (by kernel_rfl) (callR (HLG.out _)) ?_
      rintro _ X3 ⟨rfl, hb3⟩
      have hS3 := And.intro (blk_kept hS2.1 hb3) (blk_kept hS2.2 hb3)
      have kB3 := kB2.trans (hb3.mono kB2.size)
      have hz3 := blk_kept hz2 hb3
      refine ⟨hS3, ?_⟩
      simp only [Act.put, List.setIfInBounds_toArray, List.set_cons_zero, List.set_cons_succ]
      refine take_one (i := 8) (d := some 11) (v := .tuple #[.agg CC.toArray, .bool BB]) rfl rfl rfl (by kernel_rfl) (by kernel_rfl) (by kernel_rfl) (fun _ _ _ _ _ h => h.elim) (fun X hS => by kernel_rfl) hS3 ?_
      simp only [Act.put, List.setIfInBounds_toArray, List.set_cons_zero, List.set_cons_succ]
      refine take_one (i := 9) (d := some 20) (v := .agg CC.toArray) rfl rfl rfl (by kernel_rfl) (by kernel_rfl) (by kernel_rfl) (fun _ _ _ _ _ h => h.elim) (fun X hS => by kernel_rfl) hS3 ?_
      simp only [Act.put, List.setIfInBounds_toArray, List.set_cons_zero, List.set_cons_succ]
      refine take_one (i := 10) (d := some 21) (v := .bool BB) rfl rfl rfl (by kernel_rfl) (by kernel_rfl) (by kernel_rfl) (fun _ _ _ _ _ h => h.elim) (fun X hS => by kernel_rfl) hS3 ?_
      simp only [Act.put, List.setIfInBounds_toArray, List.set_cons_zero, List.set_cons_succ]
      obtain ⟨Xe, hst, bE, onE⟩ := box_store (ty := 85) (n := 18) (fun w => by kernel_rfl) hz3 rfl CC HCL.out.1 HCL.out.2
      have hne1 : b ≠ c := by have := (Array.getElem?_eq_some_iff.1 HST.out).1; omega
      have hne2 : W.heap.size ≠ c := by have := (Array.getElem?_eq_some_iff.1 HSA.out).1; omega
      have hSE := And.intro ((onE.other b hne1).trans hS3.1) ((onE.other _ hne2).trans hS3.2)
      refine all_one (i := 12) (by kernel_rfl) rfl rfl ?_
      refine wp_storeA (.tmp 6) (.tmp 20) 85 rfl rfl rfl rfl hst ⟨hSE, ?_⟩
      refine take_one (i := 13) (d := some 7) (v := .bool BB) rfl rfl rfl (by kernel_rfl) (by kernel_rfl) (by kernel_rfl) (fun _ _ _ _ _ h => h.elim) (fun X hS => by kernel_rfl) hSE ?_
      simp only [Act.put, List.setIfInBounds_toArray, List.set_cons_zero, List.set_cons_succ]
      refine wpAnyH_done (by kernel_rfl) ?_ _
      exact ⟨c, rfl, hcn, bE, kB3.trans (onE.below hcn)⟩
  · rintro a' w2 ⟨c, rfl, hcn, hc, hb2⟩
    simp only [Act.put, List.setIfInBounds_toArray, List.set_cons_zero, List.set_cons_succ]
    have HL2 : Hid _ := agg_load (t := 85) (n := 18) (fun w => by kernel_rfl) (fun w => by kernel_rfl) HCL.out.1 (CellsAt.of_blk hc)
    have HB2 : Hid (Below W1.heap.size W1 w2) := hb2
    clear hc hb2 HLG HK1 HSA HST HLU HKC
    go_wp2_with ((with_reducible show wpList _ _ _ ({ dst := _, op := Op.load 85 (Operand.tmp 6), type := _, pos := _, after := _, guard := _ } :: _) _ _); refine armLv (.tmp 6) 85 rfl rfl rfl HL2.out ?_)
    refine Calls.mono (HEC.out _) ?_
    rintro e3 w3 ⟨rfl, hb3⟩
    have hb13 := HB2.out.trans (hb3.mono HB2.out.size)
    obtain ⟨w4, hst4, hb4, ho4⟩ := box_store (ty := 47) (n := 6) (fun w => by kernel_rfl) (blk_on HSE.out hb13) (by rfl) EE HEL.out.1 HEL.out.2
    have HST4 : Hid _ := hst4
    have HLV : Hid ((loadVar 47 ⟨W.heap.size + 1, 0, none⟩).run Try.prog w4 = .ok (.agg EE.toArray) w4) := agg_loadVar (n := 6) (fun w => by kernel_rfl) (fun w => by kernel_rfl) HEL.out.1 (CellsAt.of_blk hb4)
    have HBF : Hid (Below W.heap.size W w4) := (HB1.out.trans (hb13.mono HB1.out.size)).trans (ho4.below (by omega))
    clear hst4 hb4 ho4 hb13 hb3 HEC HL2 HB2
    go_wp2_with ((with_reducible show wpList _ _ _ ({ dst := _, op := Op.store 47 (Operand.tmp 4) _, type := _, pos := _, after := _, guard := _ } :: _) _ _); refine armS (.tmp 4) (.tmp 23) 47 rfl rfl rfl rfl HST4.out ?_; try simp only [Act.put])
    exact bodyPost_ret (res2u (a := 4) (b := 5) rfl rfl rfl HLV.out) rfl (HQ.out _ _ ⟨rfl, HBF.out⟩)
set_option maxHeartbeats 4000000 in
set_option maxRecDepth 100000 in
theorem Best6_any {W : World} {b : Nat} {mk : Bool} {lim cnt : Int} {T4 T6 : Tr} (h : W.heap[b]? = some (.cells (tbC mk lim cnt T4 T6).toArray 76)) (hok : T6.Ok) (a : List Int) (ha : a.length = 16) (hf : FitB a) (L : List Ent) (hL : L = T6.walk (fun k => pre k (bitsK a 128))) :
    Calls Try.prog 15 #[.pointer (some ⟨b, 0, none⟩), .agg (u8s a).toArray] W fun e w' => e = .returned (.tuple #[.agg (enC (lastE L).1 (lastE L).2.1 (lastE L).2.2).toArray, .bool (lastB L)]) ∧ Below W.heap.size W w' := by
  obtain ⟨n, hn⟩ : ∃ n, W.heap.size = n := ⟨_, rfl⟩
  obtain ⟨W1, hW1⟩ : ∃ W1, W1 = (W.alloc (.cells (u8s a).toArray 37)).alloc (.cells zL.toArray 51) := ⟨_, rfl⟩
  have hB1 : Below W.heap.size W W1 := by rw [hW1]; exact ((Below.refl W.heap.size W).alloc (Nat.le_refl _) _).alloc (by simp) _
  have hsA : W1.heap[W.heap.size]? = some (.cells (u8s a).toArray 37) := by rw [hW1]; exact blk_alloc (blk_new W _) _
  have hsE : W1.heap[W.heap.size + 1]? = some (.cells zL.toArray 51) := by
    have := blk_new (W.alloc (.cells (u8s a).toArray 37)) (.cells zL.toArray 51)
    rw [show (W.alloc (.cells (u8s a).toArray 37)).heap.size = W.heap.size + 1 by simp] at this
    rw [hW1]; exact this
  have hsT := blk_on h hB1
  have hs1 : W1.heap.size = W.heap.size + 2 := by rw [hW1]; simp
  have hlu : (u8s a).length = 16 := by simp [u8s, ha]
  have HK1 : Hid (∀ X : World, (Instr.build 39 #[(0, .agg (u8s a).toArray), (1, .int .i64 128)]).run Try.prog X = .ok (KV (bitsK a 128)) X) := fun X => by rw [← P6_key hf ha]; exact build_k0 a ha X
  have hkl : (bitsK a 128).length ≤ 128 := by rw [bitsK_length]; exact Nat.le_refl _
  have HLG : Hid (∀ X : World, Calls Try.prog 42 #[enc T6, KV (bitsK a 128)] X fun e w' => e = .returned (.tuple #[.agg (lastC L).toArray, .bool (lastB L)]) ∧ Below X.heap.size X w') := fun X => by rw [hL]; exact longest_any T6 hok _ hkl X
  have HEC : Hid (∀ X : World, Calls Try.prog 45 #[.agg (lastC L).toArray] X fun e w' => e = .returned (.agg (enC (lastE L).1 (lastE L).2.1 (lastE L).2.2).toArray) ∧ Below X.heap.size X w') := fun X => by rw [lastC_E L]; exact entry6_any _ (lastE_len L) _ _ X
  have HCL : Hid ((lastC L).length = 18 ∧ ∀ u ∈ lastC L, u.oneCell' = true) := ⟨lastC_length L, lastC_one L⟩
  have HEL : Hid ((enC (lastE L).1 (lastE L).2.1 (lastE L).2.2).length = 18 ∧ ∀ u ∈ enC (lastE L).1 (lastE L).2.1 (lastE L).2.2, u.oneCell' = true) := ⟨by simp [enC_len, lastE_len], enC_one _ _ _⟩
  have HSA : Hid _ := hsA
  have HSE : Hid (W1.heap[W.heap.size + 1]? = some (.cells zL.toArray 51)) := hsE
  have HST : Hid (W1.heap[b]? = some (.cells (tbC mk lim cnt T4 T6).toArray 76)) := hsT
  have HB1 : Hid (Below W.heap.size W W1) := hB1
  have HLU : Hid ((u8s a).length = 16) := hlu
  have HS1 : Hid (W1.heap.size = W.heap.size + 2) := hs1
  have hTE := enc_one T6
  have HTE : Hid _ := hTE
  have hW := hW1.symm
  clear hsA hsE hsT hB1 hlu hs1 hW1 h hf hL hkl hTE
  obtain ⟨CC, hCC⟩ : ∃ CC, lastC L = CC := ⟨_, rfl⟩
  rw [hCC] at HLG HEC HCL
  clear hCC
  obtain ⟨BB, hBB⟩ : ∃ BB, lastB L = BB := ⟨_, rfl⟩
  rw [hBB] at HLG
  rw [hBB]
  clear hBB
  obtain ⟨EE, hEE⟩ : ∃ EE, enC (lastE L).1 (lastE L).2.1 (lastE L).2.2 = EE := ⟨_, rfl⟩
  rw [hEE] at HEC HEL
  rw [hEE]
  clear hEE
  obtain ⟨KK, hKK⟩ : ∃ KK, KV (bitsK a 128) = KK := ⟨_, rfl⟩
  rw [hKK] at HLG HK1
  clear hKK
  obtain ⟨UA, hUA⟩ : ∃ UA, u8s a = UA := ⟨_, rfl⟩
  rw [hUA] at HK1 HSA hW HLU
  rw [hUA]
  clear hUA
  generalize hQ : (fun (e : Ending) (w' : World) => e = .returned (.tuple #[.agg EE.toArray, .bool BB]) ∧ Below W.heap.size W w') = Q
  have HQ : Hid (∀ e w', e = .returned (.tuple #[.agg EE.toArray, .bool BB]) ∧ Below W.heap.size W w' → Q e w') := fun e w' hh => by rw [← hQ]; exact hh
  clear hQ hn
  go_enter Try.func15, Try.ntmps15
  go_wp2_with fail
  refine region_midT (fun a0 a' w' => ∃ c, a' = ((((((((((((a0.put (some 12) (.pointer (some ⟨b, 0, none⟩))).put (some 13) (.pointer (some ⟨b, 0, none⟩))).put (some 14) (.pointer (some ⟨b, 4, none⟩))).put (some 15) (enc T6)).put (some 16) (.agg UA.toArray)).put (some 17) (KK)).put (some 18) (.tuple #[.agg CC.toArray, .bool BB])).put (some 11) (.tuple #[.agg CC.toArray, .bool BB])).put (some 19) (.agg CC.toArray)).put (some 20) (.bool BB)).put (some 6) (.pointer (some ⟨c, 0, none⟩))).put (some 7) (.bool BB)) ∧ W1.heap.size ≤ c ∧ w'.heap[c]? = some (.cells CC.toArray 85) ∧ Below W1.heap.size W1 w') ?_ ?_
  · skip
    refine wp_region_held (S := (fun X => X.heap[b]? = some (.cells (tbC mk lim cnt T4 T6).toArray 76) ∧ X.heap[W.heap.size]? = some (.cells UA.toArray 37))) (by kernel_rfl) ?_
    show wpAnyH _ _ _ _ _ 13 (Array.replicate 13 false) _ _
    have hS0 : W1.drew.heap[b]? = some (.cells (tbC mk lim cnt T4 T6).toArray 76) ∧ W1.drew.heap[W.heap.size]? = some (.cells UA.toArray 37) := ⟨HST.out, HSA.out⟩
    have kB0 : Below W1.heap.size W1 W1.drew := (Below.refl _ W1).drew
    refine take_one (i := 0) (d := some 12) (v := .pointer (some ⟨b, 0, none⟩)) rfl rfl rfl (by kernel_rfl) (by kernel_rfl) (by kernel_rfl) (fun _ _ _ _ _ h => h.elim) (fun X hS => by kernel_rfl) hS0 ?_
    simp only [Act.put, List.setIfInBounds_toArray, List.set_cons_zero, List.set_cons_succ]
    refine take_one (i := 1) (d := some 13) (v := .pointer (some ⟨b, 0, none⟩)) rfl rfl rfl (by kernel_rfl) (by kernel_rfl) (by kernel_rfl) (fun _ _ _ _ _ h => h.elim) (fun X hS => by kernel_rfl) hS0 ?_
    simp only [Act.put, List.setIfInBounds_toArray, List.set_cons_zero, List.set_cons_succ]
    refine take_one (i := 2) (d := some 14) (v := .pointer (some ⟨b, 4, none⟩)) rfl rfl rfl (by kernel_rfl) (by kernel_rfl) (by kernel_rfl) (fun _ _ _ _ _ h => h.elim) (fun X hS => by kernel_rfl) hS0 ?_
    simp only [Act.put, List.setIfInBounds_toArray, List.set_cons_zero, List.set_cons_succ]
    refine take_one (i := 3) (d := some 15) (v := enc T6) rfl rfl rfl (by kernel_rfl) (by kernel_rfl) (by kernel_rfl) (fun _ _ _ _ _ h => h.elim) (fun X hS => ex_loadA (.tmp 14) 74 rfl rfl (ld_node4 hS.1)) hS0 ?_
    simp only [Act.put, List.setIfInBounds_toArray, List.set_cons_zero, List.set_cons_succ]
    refine take_one (i := 4) (d := some 16) (v := .agg UA.toArray) rfl rfl rfl (by kernel_rfl) (by kernel_rfl) (by kernel_rfl) (fun _ _ _ _ _ h => h.elim) (fun X hS => ex_loadA (.tmp 3) 37 rfl rfl (agg_load (n := 16) (fun w => by kernel_rfl) (fun w => by kernel_rfl) HLU.out (CellsAt.of_blk hS.2))) hS0 ?_
    simp only [Act.put, List.setIfInBounds_toArray, List.set_cons_zero, List.set_cons_succ]
    refine take_one (i := 5) (d := some 17) (v := KK) rfl rfl rfl (by kernel_rfl) (by kernel_rfl) (by kernel_rfl) (fun _ _ _ _ _ h => h.elim) (fun X hS => ex_buildA 39 [(0, .tmp 16), (1, .const (.int .i64 128))] rfl rfl (HK1.out X)) hS0 ?_
    simp only [Act.put, List.setIfInBounds_toArray, List.set_cons_zero, List.set_cons_succ]
    refine all_two (i1 := 6) (i2 := 10) (by kernel_rfl) rfl rfl rfl rfl ?_ ?_
    · skip
      refine wp_call (d := some 18) 42 _ rfl (by kernel_rfl) (callR (HLG.out _)) ?_
      rintro _ X1 ⟨rfl, hb1⟩
      have hS1 := And.intro (blk_kept hS0.1 hb1) (blk_kept hS0.2 hb1)
      have kB1 := kB0.trans (hb1.mono kB0.size)
      refine ⟨hS1, ?_⟩
      simp only [Act.put, List.setIfInBounds_toArray, List.set_cons_zero, List.set_cons_succ]
      refine take_one (i := 7) (d := some 11) (v := .tuple #[.agg CC.toArray, .bool BB]) rfl rfl rfl (by kernel_rfl) (by kernel_rfl) (by kernel_rfl) (fun _ _ _ _ _ h => h.elim) (fun X hS => by kernel_rfl) hS1 ?_
      simp only [Act.put, List.setIfInBounds_toArray, List.set_cons_zero, List.set_cons_succ]
      refine take_one (i := 8) (d := some 19) (v := .agg CC.toArray) rfl rfl rfl (by kernel_rfl) (by kernel_rfl) (by kernel_rfl) (fun _ _ _ _ _ h => h.elim) (fun X hS => by kernel_rfl) hS1 ?_
      simp only [Act.put, List.setIfInBounds_toArray, List.set_cons_zero, List.set_cons_succ]
      refine take_one (i := 9) (d := some 20) (v := .bool BB) rfl rfl rfl (by kernel_rfl) (by kernel_rfl) (by kernel_rfl) (fun _ _ _ _ _ h => h.elim) (fun X hS => by kernel_rfl) hS1 ?_
      simp only [Act.put, List.setIfInBounds_toArray, List.set_cons_zero, List.set_cons_succ]
      refine all_one (i := 10) (by kernel_rfl) rfl rfl ?_
      refine wp_newT (d := some 6) (v := fun c => .pointer (some ⟨c, 0, none⟩)) (z := .cells zL.toArray 85) rfl (by kernel_rfl) ?_
      rintro c X2 hc hz2 hb2
      have hcn : W1.heap.size ≤ c := by rw [hc]; exact kB1.size
      have hS2 := And.intro (blk_kept hS1.1 hb2) (blk_kept hS1.2 hb2)
      have kB2 := kB1.trans (hb2.mono kB1.size)
      refine ⟨hS2, ?_⟩
      simp only [Act.put, List.setIfInBounds_toArray, List.set_cons_zero, List.set_cons_succ]
      obtain ⟨Xe, hst, bE, onE⟩ := box_store (ty := 85) (n := 18) (fun w => by kernel_rfl) hz2 rfl CC HCL.out.1 HCL.out.2
      have hne1 : b ≠ c := by have := (Array.getElem?_eq_some_iff.1 HST.out).1; omega
      have hne2 : W.heap.size ≠ c := by have := (Array.getElem?_eq_some_iff.1 HSA.out).1; omega
      have hSE := And.intro ((onE.other b hne1).trans hS2.1) ((onE.other _ hne2).trans hS2.2)
      refine all_one (i := 11) (by kernel_rfl) rfl rfl ?_
      refine wp_storeA (.tmp 6) (.tmp 19) 85 rfl rfl rfl rfl hst ⟨hSE, ?_⟩
      refine take_one (i := 12) (d := some 7) (v := .bool BB) rfl rfl rfl (by kernel_rfl) (by kernel_rfl) (by kernel_rfl) (fun _ _ _ _ _ h => h.elim) (fun X hS => by kernel_rfl) hSE ?_
      simp only [Act.put, List.setIfInBounds_toArray, List.set_cons_zero, List.set_cons_succ]
      refine wpAnyH_done (by kernel_rfl) ?_ _
      exact ⟨c, rfl, hcn, bE, kB2.trans (onE.below hcn)⟩
    · skip
      refine wp_newT (d := some 6) (v := fun c => .pointer (some ⟨c, 0, none⟩)) (z := .cells zL.toArray 85) rfl (by kernel_rfl) ?_
      rintro c X1 hc hz1 hb1
      have hcn : W1.heap.size ≤ c := by rw [hc]; exact kB0.size
      have hS1 := And.intro (blk_kept hS0.1 hb1) (blk_kept hS0.2 hb1)
      have kB1 := kB0.trans (hb1.mono kB0.size)
      refine ⟨hS1, ?_⟩
      simp only [Act.put, List.setIfInBounds_toArray, List.set_cons_zero, List.set_cons_succ]
      refine all_one (i := 6) (by kernel_rfl) rfl rfl ?_
      refine wp_call (d := some 18) 42 _ rfl (by kernel_rfl) (callR (HLG.out _)) ?_
      rintro _ X2 ⟨rfl, hb2⟩
      have hS2 := And.intro (blk_kept hS1.1 hb2) (blk_kept hS1.2 hb2)
      have kB2 := kB1.trans (hb2.mono kB1.size)
      have hz2 := blk_kept hz1 hb2
      refine ⟨hS2, ?_⟩
      simp only [Act.put, List.setIfInBounds_toArray, List.set_cons_zero, List.set_cons_succ]
      refine take_one (i := 7) (d := some 11) (v := .tuple #[.agg CC.toArray, .bool BB]) rfl rfl rfl (by kernel_rfl) (by kernel_rfl) (by kernel_rfl) (fun _ _ _ _ _ h => h.elim) (fun X hS => by kernel_rfl) hS2 ?_
      simp only [Act.put, List.setIfInBounds_toArray, List.set_cons_zero, List.set_cons_succ]
      refine take_one (i := 8) (d := some 19) (v := .agg CC.toArray) rfl rfl rfl (by kernel_rfl) (by kernel_rfl) (by kernel_rfl) (fun _ _ _ _ _ h => h.elim) (fun X hS => by kernel_rfl) hS2 ?_
      simp only [Act.put, List.setIfInBounds_toArray, List.set_cons_zero, List.set_cons_succ]
      refine take_one (i := 9) (d := some 20) (v := .bool BB) rfl rfl rfl (by kernel_rfl) (by kernel_rfl) (by kernel_rfl) (fun _ _ _ _ _ h => h.elim) (fun X hS => by kernel_rfl) hS2 ?_
      simp only [Act.put, List.setIfInBounds_toArray, List.set_cons_zero, List.set_cons_succ]
      obtain ⟨Xe, hst, bE, onE⟩ := box_store (ty := 85) (n := 18) (fun w => by kernel_rfl) hz2 rfl CC HCL.out.1 HCL.out.2
      have hne1 : b ≠ c := by have := (Array.getElem?_eq_some_iff.1 HST.out).1; omega
      have hne2 : W.heap.size ≠ c := by have := (Array.getElem?_eq_some_iff.1 HSA.out).1; omega
      have hSE := And.intro ((onE.other b hne1).trans hS2.1) ((onE.other _ hne2).trans hS2.2)
      refine all_one (i := 11) (by kernel_rfl) rfl rfl ?_
      refine wp_storeA (.tmp 6) (.tmp 19) 85 rfl rfl rfl rfl hst ⟨hSE, ?_⟩
      refine take_one (i := 12) (d := some 7) (v := .bool BB) rfl rfl rfl (by kernel_rfl) (by kernel_rfl) (by kernel_rfl) (fun _ _ _ _ _ h => h.elim) (fun X hS => by kernel_rfl) hSE ?_
      simp only [Act.put, List.setIfInBounds_toArray, List.set_cons_zero, List.set_cons_succ]
      refine wpAnyH_done (by kernel_rfl) ?_ _
      exact ⟨c, rfl, hcn, bE, kB2.trans (onE.below hcn)⟩
  · rintro a' w2 ⟨c, rfl, hcn, hc, hb2⟩
    simp only [Act.put, List.setIfInBounds_toArray, List.set_cons_zero, List.set_cons_succ]
    have HL2 : Hid _ := agg_load (t := 85) (n := 18) (fun w => by kernel_rfl) (fun w => by kernel_rfl) HCL.out.1 (CellsAt.of_blk hc)
    have HB2 : Hid (Below W1.heap.size W1 w2) := hb2
    clear hc hb2 HLG HK1 HSA HST HLU
    go_wp2_with ((with_reducible show wpList _ _ _ ({ dst := _, op := Op.load 85 (Operand.tmp 6), type := _, pos := _, after := _, guard := _ } :: _) _ _); refine armLv (.tmp 6) 85 rfl rfl rfl HL2.out ?_)
    refine Calls.mono (HEC.out _) ?_
    rintro e3 w3 ⟨rfl, hb3⟩
    have hb13 := HB2.out.trans (hb3.mono HB2.out.size)
    obtain ⟨w4, hst4, hb4, ho4⟩ := box_store (ty := 51) (n := 18) (fun w => by kernel_rfl) (blk_on HSE.out hb13) (by rfl) EE HEL.out.1 HEL.out.2
    have HST4 : Hid _ := hst4
    have HLV : Hid ((loadVar 51 ⟨W.heap.size + 1, 0, none⟩).run Try.prog w4 = .ok (.agg EE.toArray) w4) := agg_loadVar (n := 18) (fun w => by kernel_rfl) (fun w => by kernel_rfl) HEL.out.1 (CellsAt.of_blk hb4)
    have HBF : Hid (Below W.heap.size W w4) := (HB1.out.trans (hb13.mono HB1.out.size)).trans (ho4.below (by omega))
    clear hst4 hb4 ho4 hb13 hb3 HEC HL2 HB2
    go_wp2_with ((with_reducible show wpList _ _ _ ({ dst := _, op := Op.store 51 (Operand.tmp 4) _, type := _, pos := _, after := _, guard := _ } :: _) _ _); refine armS (.tmp 4) (.tmp 22) 51 rfl rfl rfl rfl HST4.out ?_; try simp only [Act.put])
    exact bodyPost_ret (res2u (a := 4) (b := 5) rfl rfl rfl HLV.out) rfl (HQ.out _ _ ⟨rfl, HBF.out⟩)
end Go.Proofs.Ytenahbdopgmpfaa

namespace Go.Proofs.Ytenahbdopgmpfaa
open Go Go.RowKit Go.Shelf
set_option linter.unusedVariables false
set_option linter.unusedSimpArgs false

theorem wp_effT {P : Program} {o : Oper} {a : Act} {d : Option Nat} {w w2 : World} {v : Value} {K : Act → World → Prop} {Q : Exit → Act → World → Prop} (hd : o.dst = d) (hrun : (execOp a.eval o).run P w = .ok (.value v) w2) (hK : K (a.put d v) w2) : o.wp P a w K Q := by
  subst hd
  unfold Oper.wp
  rw [hrun]
  exact hK
set_option maxHeartbeats 2000000 in
set_option maxRecDepth 100000 in
theorem Best4_nob (t : Value) (a : List Int) (ha : a.length = 4) (hf : FitB a) (w : World) (h : Nob w t) : Calls Try.prog 14 #[t, .agg (u8s a).toArray] w fun e w' => (∃ c : List Value, e = .returned (.tuple #[.agg c.toArray, .bool false]) ∧ c.length = 6 ∧ ∀ v ∈ c, v.oneCell' = true) ∧ Below w.heap.size w w' := by
  rcases h with rfl | ⟨b, rfl, g⟩
  · obtain ⟨W1, hW1⟩ : ∃ W1, W1 = (w.alloc (.cells (u8s a).toArray 33)).alloc (.cells [.int .u8 0, .int .u8 0, .int .u8 0, .int .u8 0, .int .i64 0, .int .i64 0].toArray 47) := ⟨_, rfl⟩
    have hB1 : Below w.heap.size w W1 := by rw [hW1]; exact ((Below.refl w.heap.size w).alloc (Nat.le_refl _) _).alloc (by simp) _
    have hsE : W1.heap[w.heap.size + 1]? = some (.cells [.int .u8 0, .int .u8 0, .int .u8 0, .int .u8 0, .int .i64 0, .int .i64 0].toArray 47) := by
      have := blk_new (w.alloc (.cells (u8s a).toArray 33)) (.cells [.int .u8 0, .int .u8 0, .int .u8 0, .int .u8 0, .int .i64 0, .int .i64 0].toArray 47)
      rw [show (w.alloc (.cells (u8s a).toArray 33)).heap.size = w.heap.size + 1 by simp] at this
      rw [hW1]; exact this
    obtain ⟨w4, hst4, hb4, ho4⟩ := box_store (ty := 47) (n := 6) (fun w => by kernel_rfl) hsE (by rfl) [.int .u8 0, .int .u8 0, .int .u8 0, .int .u8 0, .int .i64 0, .int .i64 0] (by rfl) (by intro v hv; simp at hv; rcases hv with rfl | rfl | rfl | rfl | rfl | rfl | rfl | rfl | rfl | rfl | rfl | rfl | rfl | rfl | rfl | rfl | rfl | rfl <;> rfl)
    have HST : Hid _ := hst4
    have HLV : Hid ((loadVar 47 ⟨w.heap.size + 1, 0, none⟩).run Try.prog w4 = .ok (.agg ([.int .u8 0, .int .u8 0, .int .u8 0, .int .u8 0, .int .i64 0, .int .i64 0] : List Value).toArray) w4) := agg_loadVar (n := 6) (fun w => by kernel_rfl) (fun w => by kernel_rfl) (by rfl) (CellsAt.of_blk hb4)
    have HBF : Hid (Below w.heap.size w w4) := hB1.trans (ho4.below (by omega))
    have HBD : Hid (∀ W : World, (Instr.build 47 ([] : List (Nat × Value)).toArray).run Try.prog W = .ok (.agg ([.int .u8 0, .int .u8 0, .int .u8 0, .int .u8 0, .int .i64 0, .int .i64 0] : List Value).toArray) W) := fun W => by kernel_rfl
    have HON : Hid (∀ v ∈ ([.int .u8 0, .int .u8 0, .int .u8 0, .int .u8 0, .int .i64 0, .int .i64 0] : List Value), v.oneCell' = true) := by
      intro v hv; simp at hv; rcases hv with rfl | rfl | rfl | rfl | rfl | rfl | rfl | rfl | rfl | rfl | rfl | rfl | rfl | rfl | rfl | rfl | rfl | rfl <;> rfl
    have hW := hW1.symm
    clear hst4 hb4 ho4 hsE hB1 hW1 hf
    generalize u8s a = UA at *
    generalize hQ : (fun (e : Ending) (w' : World) => (∃ c : List Value, e = .returned (.tuple #[.agg c.toArray, .bool false]) ∧ c.length = 6 ∧ ∀ v ∈ c, v.oneCell' = true) ∧ Below w.heap.size w w') = Q
    have HQ : Hid (∀ e w', (∃ c : List Value, e = .returned (.tuple #[.agg c.toArray, .bool false]) ∧ c.length = 6 ∧ ∀ v ∈ c, v.oneCell' = true) ∧ Below w.heap.size w w' → Q e w') := fun e w' hh => by rw [← hQ]; exact hh
    clear hQ
    go_enter Try.func14, Try.ntmps14
    go_wp2_with first
      | ((with_reducible show wpList _ _ _ ({ dst := _, op := Op.build 47 _, type := _, pos := _, after := _, guard := _ } :: _) _ _); refine arm_build rfl 47 [] rfl rfl (HBD.out _) ?_)
      | ((with_reducible show wpList _ _ _ ({ dst := _, op := Op.store 47 (Operand.tmp 4) _, type := _, pos := _, after := _, guard := _ } :: _) _ _); refine armS (.tmp 4) (.tmp 10) 47 rfl rfl rfl rfl HST.out ?_; try simp only [Act.put])
    exact bodyPost_ret (res2u (a := 4) (b := 5) rfl rfl rfl HLV.out) rfl (HQ.out _ _ ⟨⟨_, rfl, rfl, HON.out⟩, HBF.out⟩)
  · refine (Best4_any (b := b) (mk := false) (lim := 0) (cnt := 0) (T4 := .nil) (T6 := .nil) g trivial a ha hf [] rfl).mono ?_
    rintro e w' ⟨rfl, hb⟩
    exact ⟨⟨_, rfl, by rw [enC_len]; rfl, enC_one _ _ _⟩, hb⟩
set_option maxHeartbeats 2000000 in
set_option maxRecDepth 100000 in
theorem Best6_nob (t : Value) (a : List Int) (ha : a.length = 16) (hf : FitB a) (w : World) (h : Nob w t) : Calls Try.prog 15 #[t, .agg (u8s a).toArray] w fun e w' => (∃ c : List Value, e = .returned (.tuple #[.agg c.toArray, .bool false]) ∧ c.length = 18 ∧ ∀ v ∈ c, v.oneCell' = true) ∧ Below w.heap.size w w' := by
  rcases h with rfl | ⟨b, rfl, g⟩
  · obtain ⟨W1, hW1⟩ : ∃ W1, W1 = (w.alloc (.cells (u8s a).toArray 37)).alloc (.cells zL.toArray 51) := ⟨_, rfl⟩
    have hB1 : Below w.heap.size w W1 := by rw [hW1]; exact ((Below.refl w.heap.size w).alloc (Nat.le_refl _) _).alloc (by simp) _
    have hsE : W1.heap[w.heap.size + 1]? = some (.cells zL.toArray 51) := by
      have := blk_new (w.alloc (.cells (u8s a).toArray 37)) (.cells zL.toArray 51)
      rw [show (w.alloc (.cells (u8s a).toArray 37)).heap.size = w.heap.size + 1 by simp] at this
      rw [hW1]; exact this
    obtain ⟨w4, hst4, hb4, ho4⟩ := box_store (ty := 51) (n := 18) (fun w => by kernel_rfl) hsE (by rfl) zL (by rfl) (by intro v hv; simp at hv; rcases hv with rfl | rfl | rfl | rfl | rfl | rfl | rfl | rfl | rfl | rfl | rfl | rfl | rfl | rfl | rfl | rfl | rfl | rfl <;> rfl)
    have HST : Hid _ := hst4
    have HLV : Hid ((loadVar 51 ⟨w.heap.size + 1, 0, none⟩).run Try.prog w4 = .ok (.agg (zL : List Value).toArray) w4) := agg_loadVar (n := 18) (fun w => by kernel_rfl) (fun w => by kernel_rfl) (by rfl) (CellsAt.of_blk hb4)
    have HBF : Hid (Below w.heap.size w w4) := hB1.trans (ho4.below (by omega))
    have HBD : Hid (∀ W : World, (Instr.build 51 ([] : List (Nat × Value)).toArray).run Try.prog W = .ok (.agg (zL : List Value).toArray) W) := fun W => by kernel_rfl
    have HON : Hid (∀ v ∈ (zL : List Value), v.oneCell' = true) := by
      intro v hv; simp at hv; rcases hv with rfl | rfl | rfl | rfl | rfl | rfl | rfl | rfl | rfl | rfl | rfl | rfl | rfl | rfl | rfl | rfl | rfl | rfl <;> rfl
    have hW := hW1.symm
    clear hst4 hb4 ho4 hsE hB1 hW1 hf
    generalize u8s a = UA at *
    generalize hQ : (fun (e : Ending) (w' : World) => (∃ c : List Value, e = .returned (.tuple #[.agg c.toArray, .bool false]) ∧ c.length = 18 ∧ ∀ v ∈ c, v.oneCell' = true) ∧ Below w.heap.size w w') = Q
    have HQ : Hid (∀ e w', (∃ c : List Value, e = .returned (.tuple #[.agg c.toArray, .bool false]) ∧ c.length = 18 ∧ ∀ v ∈ c, v.oneCell' = true) ∧ Below w.heap.size w w' → Q e w') := fun e w' hh => by rw [← hQ]; exact hh
    clear hQ
    go_enter Try.func15, Try.ntmps15
    go_wp2_with first
      | ((with_reducible show wpList _ _ _ ({ dst := _, op := Op.build 51 _, type := _, pos := _, after := _, guard := _ } :: _) _ _); refine arm_build rfl 51 [] rfl rfl (HBD.out _) ?_)
      | ((with_reducible show wpList _ _ _ ({ dst := _, op := Op.store 51 (Operand.tmp 4) _, type := _, pos := _, after := _, guard := _ } :: _) _ _); refine armS (.tmp 4) (.tmp 10) 51 rfl rfl rfl rfl HST.out ?_; try simp only [Act.put])
    exact bodyPost_ret (res2u (a := 4) (b := 5) rfl rfl rfl HLV.out) rfl (HQ.out _ _ ⟨⟨_, rfl, rfl, HON.out⟩, HBF.out⟩)
  · refine (Best6_any (b := b) (mk := false) (lim := 0) (cnt := 0) (T4 := .nil) (T6 := .nil) g trivial a ha hf [] rfl).mono ?_
    rintro e w' ⟨rfl, hb⟩
    exact ⟨⟨_, rfl, by rw [enC_len]; rfl, enC_one _ _ _⟩, hb⟩
set_option maxHeartbeats 1000000 in
theorem New_good (n : Int) (hn : 0 ≤ n ∧ n ≤ 65536) (w : World) : Calls Try.prog 8 #[.int .i64 n] w fun e w' => e = .returned (.tuple #[.pointer (some ⟨w.heap.size, 0, none⟩), .int .i64 0]) ∧ w'.heap[w.heap.size]? = some (.cells (tbC true n 0 .nil .nil).toArray 76) ∧ Below w.heap.size w w' ∧ w.heap.size < w'.heap.size := by
  have q1 : decide (n < 0) = false := by simp; omega
  have q2 : decide ((65536 : Int) < n) = false := by simp; omega
  have HB : Hid (Below w.heap.size w (w.alloc (.cells #[.bool true, .int .i64 n, .int .i64 0, .nilIface, .nilIface] 76))) := (Below.refl w.heap.size w).alloc (Nat.le_refl _) _
  have HN : Hid ((w.alloc (.cells #[.bool true, .int .i64 n, .int .i64 0, .nilIface, .nilIface] 76)).heap[w.heap.size]? = some (.cells (tbC true n 0 .nil .nil).toArray 76)) := blk_new w _
  have HZ : Hid (w.heap.size < (w.alloc (.cells #[.bool true, .int .i64 n, .int .i64 0, .nilIface, .nilIface] 76)).heap.size) := by
    have : w.heap.size < (w.alloc (.cells #[.bool true, .int .i64 n, .int .i64 0, .nilIface, .nilIface] 76)).heap.size := by simp
    exact this
  clear hn
  go_enter Try.func8, Try.ntmps8
  go_wp2
  go_ret2
  exact ⟨rfl, HN.out, HB.out, HZ.out⟩
set_option maxHeartbeats 1000000 in
set_option maxRecDepth 100000 in
theorem check4_made {W : World} {b : Nat} {lim cnt : Int} {T4 T6 : Tr} (h : W.heap[b]? = some (.cells (tbC true lim cnt T4 T6).toArray 76)) (a0 a1 a2 a3 n : Int) (h0 : 0 ≤ a0 ∧ a0 < 256) (h1 : 0 ≤ a1 ∧ a1 < 256) (h2 : 0 ≤ a2 ∧ a2 < 256) (h3 : 0 ≤ a3 ∧ a3 < 256) (hb : -9223372036854775808 ≤ n ∧ n ≤ 9223372036854775807) :
    Calls Try.prog 52 #[.pointer (some ⟨b, 0, none⟩), P4 a0 a1 a2 a3 n] W fun e w' => e = .returned (.int .i64 (if okP4 a0 a1 a2 a3 n then 0 else 22)) ∧ Below W.heap.size W w' := by
  have hB := (Below.refl W.heap.size W).alloc (Nat.le_refl _) (.cells #[.int .u8 a0, .int .u8 a1, .int .u8 a2, .int .u8 a3, .int .i64 n] 35)
  have hT := blk_on h hB
  have c0 : (W.alloc (.cells #[.int .u8 a0, .int .u8 a1, .int .u8 a2, .int .u8 a3, .int .i64 n] 35)).cell? ⟨b, 0, none⟩ = some (.bool true) := blk_cell hT rfl
  have HC : Hid _ := Check4_calls a0 a1 a2 a3 n (W.alloc (.cells #[.int .u8 a0, .int .u8 a1, .int .u8 a2, .int .u8 a3, .int .i64 n] 35)) h0 h1 h2 h3 hb
  have HB : Hid _ := hB
  clear hB hT h h0 h1 h2 h3 hb
  generalize (if okP4 a0 a1 a2 a3 n then (0 : Int) else 22) = kk at *
  go_enter Try.func52, Try.ntmps52
  go_wp2_with fail
  refine Calls.mono HC.out ?_
  rintro e w1 ⟨rfl, hb1⟩
  have HF : Hid _ := HB.out.trans (hb1.mono HB.out.size)
  clear HC hb1 c0
  go_wp2
  try go_ret
  exact ⟨rfl, HF.out⟩
set_option maxHeartbeats 4000000 in
set_option maxRecDepth 100000 in
theorem put4_new {W : World} {b : Nat} {lim cnt : Int} {T4 T6 : Tr} (h : W.heap[b]? = some (.cells (tbC true lim cnt T4 T6).toArray 76)) (hok : T4.Ok) (k : Bs) (hk : k.length ≤ 128) (v : Int) (hwas : (getN (T4.walk (fun q => pre q k)) k).2 = false) (hcn : 0 ≤ cnt ∧ cnt < lim) (hlim : lim ≤ 65536) :
    Calls Try.prog 53 #[.pointer (some ⟨b, 0, none⟩), .pointer (some ⟨b, 3, none⟩), LF k v] W fun e w' => e = .returned (.tuple #[.bool false, .int .i64 0]) ∧ w'.heap[b]? = some (.cells (tbC true lim (cnt + 1) (T4.put k v) T6).toArray 76) ∧ W.heap.size ≤ w'.heap.size ∧ (∀ B, B ≤ b → B ≤ W.heap.size → Below B W w') ∧ (∀ j, j < W.heap.size → j ≠ b → w'.heap[j]? = W.heap[j]?) := by
  obtain ⟨W1, hW1⟩ : ∃ W1, W1 = W.alloc (.cells (lfC k v).toArray 85) := ⟨_, rfl⟩
  have hB1 : Below W.heap.size W W1 := by rw [hW1]; exact (Below.refl W.heap.size W).alloc (Nat.le_refl _) _
  have hsL : W1.heap[W.heap.size]? = some (.cells (lfC k v).toArray 85) := by rw [hW1]; exact blk_new W _
  have hsT := blk_on h hB1
  have HG : Hid (∀ X : World, Calls Try.prog 56 #[enc T4, KV k] X fun e w' => e = .returned (.tuple #[.int .i64 (getN (T4.walk (fun q => pre q k)) k).1, .bool false]) ∧ Below X.heap.size X w') := fun X => by
    have := get_any T4 hok k hk X
    rwa [hwas] at this
  have HW : Hid (∀ X : World, Calls Try.prog 70 #[enc T4, LF k v] X fun e w' => e = .returned (enc (T4.put k v)) ∧ Below X.heap.size X w') := fun X => with_any T4 hok k v hk X
  have hbn : b < W.heap.size := (Array.getElem?_eq_some_iff.1 h).1
  have HBN : Hid (b < W.heap.size) := hbn
  have HST : Hid (W1.heap[b]? = some (.cells (tbC true lim cnt T4 T6).toArray 76)) := hsT
  have HSL : Hid (W1.heap[W.heap.size]? = some (.cells (lfC k v).toArray 85)) := hsL
  have HB1 : Hid (Below W.heap.size W W1) := hB1
  have HE1 : Hid ((enc T4).oneCell' = true ∧ NodeV (enc (T4.put k v))) := ⟨enc_one _, enc_node _⟩
  have hW := hW1.symm
  clear hwas hsL hsT hB1 hW1 h hok hbn
  generalize (getN (T4.walk (fun q => pre q k)) k).1 = g1 at *
  generalize hQ : (fun (e : Ending) (w' : World) => e = .returned (.tuple #[.bool false, .int .i64 0]) ∧ w'.heap[b]? = some (.cells (tbC true lim (cnt + 1) (T4.put k v) T6).toArray 76) ∧ W.heap.size ≤ w'.heap.size ∧ (∀ B, B ≤ b → B ≤ W.heap.size → Below B W w') ∧ (∀ j, j < W.heap.size → j ≠ b → w'.heap[j]? = W.heap[j]?)) = Q
  have HQ : Hid (∀ e w', e = .returned (.tuple #[.bool false, .int .i64 0]) ∧ w'.heap[b]? = some (.cells (tbC true lim (cnt + 1) (T4.put k v) T6).toArray 76) ∧ W.heap.size ≤ w'.heap.size ∧ (∀ B, B ≤ b → B ≤ W.heap.size → Below B W w') ∧ (∀ j, j < W.heap.size → j ≠ b → w'.heap[j]? = W.heap[j]?) → Q e w') := fun e w' hh => by rw [← hQ]; exact hh
  clear hQ
  go_enter Try.func53, Try.ntmps53
  go_wp2_with fail
  refine region_midT (fun a0 a' w' => a' = (((((((((((a0.put (some 11) (.pointer (some ⟨b, 3, none⟩))).put (some 12) (.pointer (some ⟨b, 3, none⟩))).put (some 13) (enc T4)).put (some 14) (.pointer (some ⟨W.heap.size, 0, none⟩))).put (some 15) (KV k)).put (some 16) (.tuple #[.int .i64 g1, .bool false])).put (some 10) (.tuple #[.int .i64 g1, .bool false])).put (some 17) (.int .i64 g1)).put (some 18) (.bool false)).put (some 8) (.int .i64 g1)).put (some 9) (.bool false)) ∧ Below W1.heap.size W1 w') ?_ ?_
  · skip
    refine wp_region_held (S := (fun X => X.heap[b]? = some (.cells (tbC true lim cnt T4 T6).toArray 76) ∧ X.heap[W.heap.size]? = some (.cells (lfC k v).toArray 85))) (by kernel_rfl) ?_
    show wpAnyH _ _ _ _ _ 11 (Array.replicate 11 false) _ _
    have hS0 : W1.drew.heap[b]? = some (.cells (tbC true lim cnt T4 T6).toArray 76) ∧ W1.drew.heap[W.heap.size]? = some (.cells (lfC k v).toArray 85) := ⟨HST.out, HSL.out⟩
    refine take_one (i := 0) (d := some 11) (v := .pointer (some ⟨b, 3, none⟩)) rfl rfl rfl (by kernel_rfl) (by kernel_rfl) (by kernel_rfl) (fun _ _ _ _ _ h => h.elim) (fun X hS => by kernel_rfl) hS0 ?_
    simp only [Act.put, List.setIfInBounds_toArray, List.set_cons_zero, List.set_cons_succ]
    refine take_one (i := 1) (d := some 12) (v := .pointer (some ⟨b, 3, none⟩)) rfl rfl rfl (by kernel_rfl) (by kernel_rfl) (by kernel_rfl) (fun _ _ _ _ _ h => h.elim) (fun X hS => by kernel_rfl) hS0 ?_
    simp only [Act.put, List.setIfInBounds_toArray, List.set_cons_zero, List.set_cons_succ]
    refine take_one (i := 2) (d := some 13) (v := enc T4) rfl rfl rfl (by kernel_rfl) (by kernel_rfl) (by kernel_rfl) (fun _ _ _ _ _ h => h.elim) (fun X hS => ex_loadA (.tmp 12) 74 rfl rfl (ld_node3 hS.1)) hS0 ?_
    simp only [Act.put, List.setIfInBounds_toArray, List.set_cons_zero, List.set_cons_succ]
    refine take_one (i := 3) (d := some 14) (v := .pointer (some ⟨W.heap.size, 0, none⟩)) rfl rfl rfl (by kernel_rfl) (by kernel_rfl) (by kernel_rfl) (fun _ _ _ _ _ h => h.elim) (fun X hS => by kernel_rfl) hS0 ?_
    simp only [Act.put, List.setIfInBounds_toArray, List.set_cons_zero, List.set_cons_succ]
    refine take_one (i := 4) (d := some 15) (v := KV k) rfl rfl rfl (by kernel_rfl) (by kernel_rfl) (by kernel_rfl) (fun _ _ _ _ _ h => h.elim) (fun X hS => ex_loadA (.tmp 14) 39 rfl rfl (kb_key (r := [.int .i64 v]) hS.2)) hS0 ?_
    simp only [Act.put, List.setIfInBounds_toArray, List.set_cons_zero, List.set_cons_succ]
    refine all_one (i := 5) (by kernel_rfl) rfl rfl ?_
    refine wp_call (d := some 16) 56 _ rfl (by kernel_rfl) (callR (HG.out _)) ?_
    rintro _ X1 ⟨rfl, hb1⟩
    have hS1 := And.intro (blk_kept hS0.1 hb1) (blk_kept hS0.2 hb1)
    refine ⟨hS1, ?_⟩
    simp only [Act.put, List.setIfInBounds_toArray, List.set_cons_zero, List.set_cons_succ]
    refine take_one (i := 6) (d := some 10) (v := .tuple #[.int .i64 g1, .bool false]) rfl rfl rfl (by kernel_rfl) (by kernel_rfl) (by kernel_rfl) (fun _ _ _ _ _ h => h.elim) (fun X hS => by kernel_rfl) hS1 ?_
    simp only [Act.put, List.setIfInBounds_toArray, List.set_cons_zero, List.set_cons_succ]
    refine take_one (i := 7) (d := some 17) (v := .int .i64 g1) rfl rfl rfl (by kernel_rfl) (by kernel_rfl) (by kernel_rfl) (fun _ _ _ _ _ h => h.elim) (fun X hS => by kernel_rfl) hS1 ?_
    simp only [Act.put, List.setIfInBounds_toArray, List.set_cons_zero, List.set_cons_succ]
    refine take_one (i := 8) (d := some 18) (v := .bool false) rfl rfl rfl (by kernel_rfl) (by kernel_rfl) (by kernel_rfl) (fun _ _ _ _ _ h => h.elim) (fun X hS => by kernel_rfl) hS1 ?_
    simp only [Act.put, List.setIfInBounds_toArray, List.set_cons_zero, List.set_cons_succ]
    refine take_one (i := 9) (d := some 8) (v := .int .i64 g1) rfl rfl rfl (by kernel_rfl) (by kernel_rfl) (by kernel_rfl) (fun _ _ _ _ _ h => h.elim) (fun X hS => by kernel_rfl) hS1 ?_
    simp only [Act.put, List.setIfInBounds_toArray, List.set_cons_zero, List.set_cons_succ]
    refine take_one (i := 10) (d := some 9) (v := .bool false) rfl rfl rfl (by kernel_rfl) (by kernel_rfl) (by kernel_rfl) (fun _ _ _ _ _ h => h.elim) (fun X hS => by kernel_rfl) hS1 ?_
    simp only [Act.put, List.setIfInBounds_toArray, List.set_cons_zero, List.set_cons_succ]
    refine wpAnyH_done (by kernel_rfl) ?_ _
    exact ⟨rfl, ((Below.refl _ W1).drew).trans hb1⟩
  · rintro a' w2 ⟨rfl, hb2⟩
    simp only [Act.put, List.setIfInBounds_toArray, List.set_cons_zero, List.set_cons_succ]
    have hT2 := blk_kept HST.out hb2
    have hL2 := blk_kept HSL.out hb2
    have c1 : w2.cell? ⟨b, 1, none⟩ = some (.int .i64 lim) := blk_cell hT2 rfl
    have c2 : w2.cell? ⟨b, 2, none⟩ = some (.int .i64 cnt) := blk_cell hT2 rfl
    have o2 := blk_open hT2 2
    have q : (cnt == lim) = false := by simp; omega
    obtain ⟨w3, hw3⟩ : ∃ w3, w3 = w2.setCell ⟨b, 2, none⟩ (.int .i64 (cnt + 1)) := ⟨_, rfl⟩
    have hT3 : w3.heap[b]? = some (.cells (tbC true lim (cnt + 1) T4 T6).toArray 76) := by rw [hw3]; exact blk_set hT2 2 _
    have ho3 : Only b w2 w3 := by rw [hw3]; exact (Only.refl b w2).set 2 _
    have hL3 := (ho3.other W.heap.size (by have := HBN.out; omega)).trans hL2
    have HT3 : Hid (w3.heap[b]? = some (.cells (tbC true lim (cnt + 1) T4 T6).toArray 76)) := hT3
    have HL3 : Hid (w3.heap[W.heap.size]? = some (.cells (lfC k v).toArray 85)) := hL3
    have HB3 : Hid (∀ B, B ≤ b → B ≤ W.heap.size → Below B W w3) := fun B hB hB2 => ((HB1.out.mono hB2).trans (hb2.mono (Nat.le_trans hB2 HB1.out.size))).trans (ho3.below hB)
    have HZ3 : Hid (W.heap.size ≤ w3.heap.size) := by
      have h1 := HB1.out.size
      have h2 := hb2.size
      have h3 := ho3.size
      have : W.heap.size ≤ w3.heap.size := by omega
      exact this
    have HO3 : Hid (∀ j, j < W.heap.size → j ≠ b → w3.heap[j]? = W.heap[j]?) := fun j hj hn => (ho3.other j hn).trans ((hb2.block j (Nat.lt_of_lt_of_le hj HB1.out.size)).trans (HB1.out.block j hj))
    have hw3' := hw3.symm
    clear hT2 hL2 hT3 ho3 hL3 hb2 hw3 HST HSL HG HB1
    go_wp2_with fail
    go_region
    go_wp2_with fail
    refine region_midT (fun a0 a' w' => a' = (((((((a0.put (some 41) (.pointer (some ⟨b, 3, none⟩))).put (some 42) (.pointer (some ⟨b, 3, none⟩))).put (some 43) (.pointer (some ⟨b, 3, none⟩))).put (some 44) (enc T4)).put (some 45) (LF k v)).put (some 46) (enc (T4.put k v))).put (some 47) (.pointer (some ⟨b, 3, none⟩))) ∧ w'.heap[b]? = some (.cells (tbC true lim (cnt + 1) (T4.put k v) T6).toArray 76) ∧ w3.heap.size ≤ w'.heap.size ∧ (∀ B, B ≤ b → Below B w3 w') ∧ (∀ j, j < w3.heap.size → j ≠ b → w'.heap[j]? = w3.heap[j]?)) ?_ ?_
    · skip
      refine wp_region_held (S := fun X => (∃ T, X.heap[b]? = some (.cells (tbC true lim (cnt + 1) T T6).toArray 76)) ∧ X.heap[W.heap.size]? = some (.cells (lfC k v).toArray 85)) (by kernel_rfl) ?_
      show wpAnyH _ _ _ _ _ 8 (Array.replicate 8 false) _ _
      have hT0 : w3.drew.drew.heap[b]? = some (.cells (tbC true lim (cnt + 1) T4 T6).toArray 76) := HT3.out
      have hS0 : (∃ T, w3.drew.drew.heap[b]? = some (.cells (tbC true lim (cnt + 1) T T6).toArray 76)) ∧ w3.drew.drew.heap[W.heap.size]? = some (.cells (lfC k v).toArray 85) := ⟨⟨T4, HT3.out⟩, HL3.out⟩
      refine take_one (i := 0) (d := some 41) (v := .pointer (some ⟨b, 3, none⟩)) rfl rfl rfl (by kernel_rfl) (by kernel_rfl) (by kernel_rfl) (fun _ _ _ _ _ h => h.elim) (fun X hS => by kernel_rfl) hS0 ?_
      simp only [Act.put, List.setIfInBounds_toArray, List.set_cons_zero, List.set_cons_succ]
      refine take_one (i := 1) (d := some 42) (v := .pointer (some ⟨b, 3, none⟩)) rfl rfl rfl (by kernel_rfl) (by kernel_rfl) (by kernel_rfl) (fun _ _ _ _ _ h => h.elim) (fun X hS => by kernel_rfl) hS0 ?_
      simp only [Act.put, List.setIfInBounds_toArray, List.set_cons_zero, List.set_cons_succ]
      refine take_one (i := 2) (d := some 43) (v := .pointer (some ⟨b, 3, none⟩)) rfl rfl rfl (by kernel_rfl) (by kernel_rfl) (by kernel_rfl) (fun _ _ _ _ _ h => h.elim) (fun X hS => by kernel_rfl) hS0 ?_
      simp only [Act.put, List.setIfInBounds_toArray, List.set_cons_zero, List.set_cons_succ]
      refine take_one (i := 4) (d := some 45) (v := LF k v) rfl rfl rfl (by kernel_rfl) (by kernel_rfl) (by kernel_rfl) (fun _ _ _ _ _ h => h.elim) (fun X hS => ex_loadA (.tmp 5) 85 rfl rfl (lf_load hS.2)) hS0 ?_
      simp only [Act.put, List.setIfInBounds_toArray, List.set_cons_zero, List.set_cons_succ]
      refine all_one (i := 3) (by kernel_rfl) rfl rfl ?_
      refine wp_effT (d := some 44) (v := enc T4) rfl (ex_loadA (.tmp 43) 74 rfl rfl (ld_node3 hT0)) ⟨hS0, ?_⟩
      simp only [Act.put, List.setIfInBounds_toArray, List.set_cons_zero, List.set_cons_succ]
      refine all_one (i := 5) (by kernel_rfl) rfl rfl ?_
      refine wp_call (d := some 46) 70 _ rfl (by kernel_rfl) (callR (HW.out _)) ?_
      rintro _ X1 ⟨rfl, hb1⟩
      have hT1 := blk_kept hT0 hb1
      have hL1 := blk_kept hS0.2 hb1
      refine ⟨⟨⟨T4, hT1⟩, hL1⟩, ?_⟩
      simp only [Act.put, List.setIfInBounds_toArray, List.set_cons_zero, List.set_cons_succ]
      refine take_one (i := 6) (d := some 47) (v := .pointer (some ⟨b, 3, none⟩)) rfl rfl rfl (by kernel_rfl) (by kernel_rfl) (by kernel_rfl) (fun _ _ _ _ _ h => h.elim) (fun X hS => by kernel_rfl) ⟨⟨T4, hT1⟩, hL1⟩ ?_
      simp only [Act.put, List.setIfInBounds_toArray, List.set_cons_zero, List.set_cons_succ]
      obtain ⟨X2, hst, hT2, ho2⟩ : ∃ X2, (Instr.storeAt 74 (.pointer (some ⟨b, 3, none⟩)) (enc (T4.put k v))).run Try.prog X1 = .ok () X2 ∧ X2.heap[b]? = some (.cells (tbC true lim (cnt + 1) (T4.put k v) T6).toArray 76) ∧ Only b X1 X2 := ⟨_, st_node hT1 (show 3 < 5 by decide) HE1.out.2, blk_set hT1 3 _, (Only.refl b X1).set 3 _⟩
      have hL2 := (ho2.other W.heap.size (by have := HBN.out; omega)).trans hL1
      refine all_one (i := 7) (by kernel_rfl) rfl rfl ?_
      refine wp_storeA (.tmp 47) (.tmp 46) 74 rfl rfl rfl rfl hst ⟨⟨⟨_, hT2⟩, hL2⟩, ?_⟩
      refine wpAnyH_done (by kernel_rfl) ?_ _
      have hbx : ∀ B, B ≤ b → Below B w3 X2 := fun B hB => (((Below.refl w3.heap.size w3).drew.drew.trans hb1).mono (Nat.le_trans hB (Nat.le_of_lt (Array.getElem?_eq_some_iff.1 HT3.out).1))).trans (ho2.below hB)
      exact ⟨rfl, hT2, (hbx b (Nat.le_refl _)).size, hbx, fun j hj hn => (ho2.other j hn).trans (((Below.refl w3.heap.size w3).drew.drew.trans hb1).block j hj)⟩
    · rintro a' w4 ⟨rfl, hT4, hz4, hb4, ho4⟩
      simp only [Act.put, List.setIfInBounds_toArray, List.set_cons_zero, List.set_cons_succ]
      have HF : Hid (Q (.returned (.tuple #[.bool false, .int .i64 0])) w4) := HQ.out _ _ ⟨rfl, hT4, Nat.le_trans HZ3.out hz4, fun B hB hB2 => (HB3.out B hB hB2).trans (hb4 B hB), fun j hj hn => (ho4 j (Nat.lt_of_lt_of_le hj HZ3.out) hn).trans (HO3.out j hj hn)⟩
      clear hT4 hz4 hb4 ho4 HO3 HW HT3 HL3 HB3 HZ3 HQ
      go_wp2
      try go_ret2
      exact HF.out
end Go.Proofs.Ytenahbdopgmpfaa
