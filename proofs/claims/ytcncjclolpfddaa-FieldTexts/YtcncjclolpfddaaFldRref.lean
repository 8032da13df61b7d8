/-
  The contract of the document's Read.
-/
import Derived.Test.YtcncjclolpfddaaFldRead
namespace Go.Proofs.Ytcncjclolpfddaa
set_option linter.unusedVariables false
set_option linter.unusedSimpArgs false
open Go Go.RowKit
attribute [local go_sem] Oper.semAt_some

theorem nums_succ (s : ByteArray) (k : Nat) (h : k < s.size) : numsV ((numsOf s).take (k + 1)) = numsV ((numsOf s).take k) ++ [.int .u64 ((byteAt s k - 48 : Nat) : Int)] := by
  have hl : k < (numsOf s).length := by simpa using h
  have e : (numsOf s)[k] = byteAt s k - 48 := by
    have := numsOf_get s k h
    rw [List.getElem?_eq_getElem hl] at this
    simpa using this
  rw [List.take_succ_eq_append_getElem hl, e, numsV, List.map_append]
  rfl

set_option maxHeartbeats 4000000 in
set_option maxRecDepth 100000 in
theorem Rread_calls (s : ByteArray) (hs : s.size ≤ 300000) (w : World) : Calls Try.prog 26 #[.string s] w fun e w' => ReadPost s w e w' := by
  have hrc := Lib.runeCount_le s
  go_enter Try.func26, Try.ntmps26
  go_wp2
  go_loopw [6] (fun x wr => ∃ pos fuel cnt : Nat, wr.heap[w.heap.size]? = some (.stringIter s pos) ∧ s.size ≤ pos + fuel ∧ cnt + Lib.runeCountFrom s fuel pos = Lib.runeCount s ∧ x = .int .i64 cnt ∧ Below w.heap.size w wr)
    (fun _ wr => s.size - wr.iterPos w.heap.size)
  case atStart => exact ⟨0, s.size, 0, World.iter_heap _ _ _, by omega, by simp [Lib.runeCount], rfl, (Below.refl _ w).alloc (Nat.le_refl _) _⟩
  case round =>
    obtain ⟨pos, fuel, cnt, hit, hfu, hcnt, rfl, hB⟩ := hrel
    have hmu : wr.iterPos w.heap.size = pos := by simp [World.iterPos, hit]
    have HCN : Hid _ := hcnt
    have hcl : cnt ≤ Lib.runeCount s := by omega
    clear hcnt
    by_cases hp : pos < s.size
    · obtain ⟨f, rfl⟩ : ∃ f, fuel = f + 1 := ⟨fuel - 1, by omega⟩
      have hwd := Lib.decode_width_pos s pos hp
      have hstep : cnt + 1 + Lib.runeCountFrom s f (pos + (Utf8.decode s pos).2) = Lib.runeCount s := by
        have := HCN.out
        rw [Lib.runeCountFrom, if_pos hp] at this
        omega
      have hnext : ∀ ty, (Instr.next (.pointer (some ⟨w.heap.size, 0, none⟩)) true ty).run Try.prog wr = _ := fun ty => Lib.run_next_any_at wr w.heap.size s pos ty hit hp
      have hit1 := Lib.iterAt_heap wr w.heap.size s pos (pos + (Utf8.decode s pos).2) hit
      have hB1 := Lib.below_iterAt hB (Nat.le_refl _) s (pos + (Utf8.decode s pos).2)
      generalize wr.iterAt w.heap.size s (pos + (Utf8.decode s pos).2) = W1 at hnext hB1 hit1
      generalize (Utf8.decode s pos).1 = r at hnext
      generalize (Utf8.decode s pos).2 = wd at hwd hstep hit1
      have HST : Hid _ := hstep
      clear hstep HCN
      go_wp2
      go_roundw
      case rel => exact ⟨pos + wd, f, cnt + 1, hit1, by omega, HST.out, by simp, hB1⟩
      case measure =>
        have hmu2 : W1.iterPos w.heap.size = pos + wd := by simp [World.iterPos, hit1]
        rw [hmu, hmu2]
        omega
    · have hce : cnt = Lib.runeCount s := by
        have := HCN.out
        rw [Lib.runeCountFrom_end s fuel pos hp] at this
        omega
      have hnext : ∀ ty, (Instr.next (.pointer (some ⟨w.heap.size, 0, none⟩)) true ty).run Try.prog wr = _ := fun ty => Lib.run_next_end_at wr w.heap.size s pos ty hit hp
      have HCE : Hid _ := hce
      clear hce HCN hcl
      have hcs : cnt ≤ s.size := by rw [HCE.out]; exact hrc
      by_cases hbig : 65536 < cnt
      · go_wp2
        refine bodyPost_ret (results_tmp4 rfl _ _ _) rfl ?_
        exact ⟨_, [], 0, 0, 2, rfl, nil_bytes _ _, hB, .inl ⟨by rw [← HCE.out]; exact hbig, rfl, rfl, rfl, rfl⟩⟩
      · go_wp2
        go_loopw [7, 8] (fun x i wr => ∃ k : Nat, k ≤ s.size ∧ goodTo s k ∧ i = .int .i64 k ∧ wr.ownsRow w.heap.size 23 1 x k (numsV ((numsOf s).take k)) ∧ Below w.heap.size w wr) (fun _ i _ => s.size - (intOf i).toNat)
        case atStart => exact ⟨0, Nat.zero_le _, fun j hj => absurd hj (by omega), rfl, World.ownsRow_nil _ _ _ _, hB⟩
        case round =>
          clear hB hit hmu hnext
          obtain ⟨k, hk, hgood, rfl, hown, hB⟩ := hrel
          have hsz := hB.size
          by_cases hlt : k < s.size
          · have hb := byteAt_eq s k hlt
            have hsn := nums_succ s k hlt
            by_cases hlet : (s[k]'hlt).toNat = 48 ∨ (s[k]'hlt).toNat = 49
            · have hgood' : goodTo s (k + 1) := fun j hj => by
                by_cases cj : j = k
                · subst cj; unfold isLet; rw [hb]; exact hlet
                · exact hgood j (by omega)
              have HG : Hid _ := hgood'
              clear hgood'
              rcases hlet with hc | hc
              · rw [hb, hc] at hsn
                obtain ⟨v', w1, hrun, hown', hgrow⟩ := own_u64 hown hsz (by omega) 0 66
                have H0 : Hid _ := hrun
                have HS : Hid _ := hsn
                clear hrun hsn hb
                go_wp2_with (at_builtin; refine wpList_append_run rfl _ _ _ _ rfl rfl rfl H0.out ?_; clear H0)
                refine ⟨⟨k + 1, by omega, HG.out, by simp, ?_, hB.grown hgrow hsz (fun j hj => (hown.lt j hj).1)⟩, by simp [intOf]; omega⟩
                rw [HS.out]; exact hown'
              · rw [hb, hc] at hsn
                obtain ⟨v', w1, hrun, hown', hgrow⟩ := own_u64 hown hsz (by omega) 1 66
                have H0 : Hid _ := hrun
                have HS : Hid _ := hsn
                clear hrun hsn hb
                go_wp2_with (at_builtin; refine wpList_append_run rfl _ _ _ _ rfl rfl rfl H0.out ?_; clear H0)
                refine ⟨⟨k + 1, by omega, HG.out, by simp, ?_, hB.grown hgrow hsz (fun j hj => (hown.lt j hj).1)⟩, by simp [intOf]; omega⟩
                rw [HS.out]; exact hown'
            · have hbad : ¬ isLet s k := by unfold isLet; rw [hb]; exact hlet
              have hq1 : ((((s[k]'hlt).toNat : Nat) : Int) != 48) = true := by simp; omega
              have hq2 : ((((s[k]'hlt).toNat : Nat) : Int) != 49) = true := by simp; omega
              clear hb hsn
              go_wp2
              refine bodyPost_ret (results_tmp4 rfl _ _ _) rfl ?_
              exact ⟨_, [], 0, k, 31, rfl, nil_bytes _ _, hB, .inr (.inl ⟨by rw [← HCE.out]; omega, ⟨k, hlt, hgood, hbad, rfl⟩, rfl, rfl, rfl⟩)⟩
          · obtain rfl : k = s.size := by omega
            have htk : (numsOf s).take s.size = numsOf s := List.take_of_length_le (by simp)
            rw [htk] at hown
            obtain ⟨a2, cap2, rfl, hz2⟩ := own_nums hown
            have hbr := bytes_ref _ (numsOf s) wr (own_numsAt hown) (by simp; omega)
            rw [numsOf_length] at hbr
            have HB3 : Hid _ := hbr
            clear hbr hown hz2 htk
            rw [numsOf_length] at *
            go_wp2_with fail
            refine Calls.mono HB3.out ?_
            rintro e w4 ⟨r4, rfl, ho4, hB4⟩
            go_wp2
            refine bodyPost_ret (results_tmp4 rfl _ _ _) rfl ?_
            exact ⟨_, _, s.size, 0, 0, rfl, ho4.bytes, hB.trans (hB4.mono hB.size), .inr (.inr ⟨by rw [← HCE.out]; omega, hgood, rfl, rfl, rfl, rfl⟩)⟩

end Go.Proofs.Ytcncjclolpfddaa
