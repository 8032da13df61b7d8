/-
  The contract of the program's Read.
-/
import Derived.Test.YtcncjclolpfddaaFldRpure
namespace Go.Proofs.Ytcncjclolpfddaa
set_option linter.unusedVariables false
set_option linter.unusedSimpArgs false
open Go Go.RowKit
attribute [local go_sem] Oper.semAt_some

theorem OwnG.other {base g : Nat} {w w' : World} {zs : List Int} (h : OwnG base w g zs) (e : w'.heap[g]? = w.heap[g]?) : OwnG base w' g zs :=
  ⟨h.low, by obtain ⟨cs, hc⟩ := h.typed; exact ⟨cs, e.trans hc⟩, fun j hj => (World.cell?_of_block (a := ⟨g, j, none⟩) e).trans (h.cell j hj)⟩

set_option maxHeartbeats 4000000 in
set_option maxRecDepth 100000 in
theorem read_calls (s : ByteArray) (hs : s.size ≤ 300000) (w : World) : Calls Try.prog 25 #[.string s] w fun e w' => ReadPost s w e w' := by
  have hrc := Lib.runeCount_le s
  by_cases hbig : 65536 < Lib.runeCount s
  · generalize hrn : Lib.runeCount s = rn at *
    have HRN : Hid _ := hrn
    clear hrn
    go_enter Try.func25, Try.ntmps25
    go_wp2_with fail
    refine (Try.utf8_RuneCountInString s w (by omega)).mono ?_
    rintro e w1 ⟨rfl, pos, rfl⟩
    rw [HRN.out]
    go_wp2
    refine bodyPost_ret (results_tmp4 rfl _ _ _) rfl ?_
    exact ⟨_, [], 0, 0, 2, rfl, nil_bytes _ _, (Below.refl _ w).alloc (Nat.le_refl _) _, .inl ⟨by rw [HRN.out]; exact hbig, rfl, rfl, rfl, rfl⟩⟩
  · have hroom := fun w => room_calls (Lib.runeCount s) w (by omega)
    have hmore := runes_more s
    have hall := runes_all s
    have hpack := rowR_pack s
    generalize hrn : Lib.runeCount s = rn at *
    have HRN : Hid _ := hrn
    have HM : Hid _ := hmore
    have HA : Hid _ := hall
    have HP : Hid _ := hpack
    have HR : Hid _ := hroom
    clear hrn hmore hall hpack hroom
    obtain ⟨i, hi, hz0, hsz, hby⟩ := info_parts info_u8
    obtain ⟨f, hfd⟩ : ∃ f, f = (rn + 7) / 8 := ⟨_, rfl⟩
    rw [← hfd] at HR
    go_enter Try.func25, Try.ntmps25
    go_wp2_with fail
    refine (Try.utf8_RuneCountInString s w (by omega)).mono ?_
    rintro e w1 ⟨rfl, pos0, rfl⟩
    rw [HRN.out]
    have hB0 : Below w.heap.size w (w.iter s pos0) := (Below.refl _ w).alloc (Nat.le_refl _) _
    generalize w.iter s pos0 = w1 at *
    have hf2 : f ≤ 40000 := by omega
    have hf3 : rn ≤ 8 * f := by omega
    have HFD : Hid _ := hfd
    clear hfd
    go_wp2_with (first
      | (go_at_call 37; refine Calls.mono (HR.out _) ?_; rintro e w2 ⟨rfl, rfl⟩)
      | (at_make; refine wpList_make_full _ rfl _ _ _ rfl _ 5 i (.int .u8 0) 1 Try.underlying22 hi hz0 hsz .i64 .i64 _ _ f rfl rfl rfl rfl (by rw [hby]; omega) (by unfold maxLen; omega) (Nat.le_refl _) ?_; intro X hown hgr; have hG := own_made hown; have hB1 := (Below.refl _ _).grown hgr (Nat.le_refl _) (fun k hk => by cases hk); clear hown hgr))
    have hB := hB0.trans (hB1.mono hB0.size)
    have hsz0 := hB0.size
    have hlow := hG.block
    clear hB0 hB1
    generalize hgg : w2.heap.size = g at *
    generalize hit0 : X.heap.size = it at *
    go_loopw [] (fun wr => ∃ pos : Nat, pos ≤ s.size ∧ goodTo s pos ∧ wr.heap[it]? = some (.stringIter s pos) ∧ OwnG g wr g (rowR s rn pos) ∧ Below w.heap.size w wr)
      (fun wr => s.size - wr.iterPos it)
    case atStart =>
      subst hit0
      refine ⟨0, Nat.zero_le _, fun j hj => absurd hj (by omega), World.iter_heap _ _ _, ?_, hB.alloc hB.size _⟩
      have : rowR s rn 0 = List.replicate f 0 := by rw [HFD.out]; rfl
      rw [this]
      exact hG.keep ((Below.refl _ X).alloc (Nat.le_refl _) _)
    case round =>
      clear hG hB
      obtain ⟨pos, hps, hgood, hit, hG, hB⟩ := hrel
      have hmu : wr.iterPos it = pos := by simp [World.iterPos, hit]
      have hne : g ≠ it := by omega
      by_cases hp : pos < s.size
      · have hb := byteAt_eq s pos hp
        by_cases h128 : (s[pos]'hp).toNat < 128
        · have hnext : ∀ ty, (Instr.next (.pointer (some ⟨it, 0, none⟩)) true ty).run Try.prog wr = _ := fun ty => Lib.run_next_ascii_at wr it s pos ty hit hp h128
          have hit1 := Lib.iterAt_heap wr it s pos (pos + 1) hit
          have hG1 := hG.other (Lib.iterAt_other wr it g s (pos + 1) hne)
          have hB1 := Lib.below_iterAt hB (show w.heap.size ≤ it by omega) s (pos + 1)
          generalize hcc : s[pos]'hp = c at hnext h128 hb
          generalize wr.iterAt it s (pos + 1) = W1 at hnext hit1 hG1 hB1
          by_cases hlet : c.toNat = 48 ∨ c.toNat = 49
          · have hmore := HM.out pos hp hgood
            have hlen : (rowR s rn pos).length = f := by rw [HFD.out]; simp
            have hgood' : goodTo s (pos + 1) := fun j hj => by
              by_cases cj : j = pos
              · subst cj; unfold isLet; rw [hb]; exact hlet
              · exact hgood j (by omega)
            have hfit := rowR_fit s rn pos
            have hrow : rowR s rn (pos + 1) = writeL (rowR s rn pos) pos 1 (byteAt s pos - 48) 1 := rfl
            rw [hb] at hrow
            have hw := write_only g f g (rowR s rn pos) pos 1 (c.toNat - 48) W1 hfit (by omega) hG1 (by omega) (by decide) (by omega)
            rw [← hrow, hlen] at hw
            have e1 : ((c.toNat - 48 : Nat) : Int) = (c.toNat : Int) - 48 := by omega
            rw [e1] at hw
            have HW : Hid _ := hw
            clear hw e1 hrow hfit hlen
            generalize hcn : c.toNat = cn at *
            rcases hlet with rfl | rfl
            · go_wp2_with fail
              refine Calls.mono HW.out ?_
              rintro e W2 ⟨rfl, hG2, hB2, hs2, hoth⟩
              have hit2 := (hoth it (Ne.symm hne)).trans hit1
              have hB12 := hB1.trans (hB2.mono hsz0)
              clear hoth HW
              go_wp2
              go_roundw
              case rel => exact ⟨pos + 1, by omega, hgood', hit2, hG2, hB12⟩
              case measure =>
                have hmu2 : W2.iterPos it = pos + 1 := by simp [World.iterPos, hit2]
                rw [hmu, hmu2]
                omega
            · go_wp2_with fail
              refine Calls.mono HW.out ?_
              rintro e W2 ⟨rfl, hG2, hB2, hs2, hoth⟩
              have hit2 := (hoth it (Ne.symm hne)).trans hit1
              have hB12 := hB1.trans (hB2.mono hsz0)
              clear hoth HW
              go_wp2
              go_roundw
              case rel => exact ⟨pos + 1, by omega, hgood', hit2, hG2, hB12⟩
              case measure =>
                have hmu2 : W2.iterPos it = pos + 1 := by simp [World.iterPos, hit2]
                rw [hmu, hmu2]
                omega
          · have hbad : ¬ isLet s pos := by unfold isLet; rw [hb]; exact hlet
            generalize hcn : c.toNat = cn at *
            have hq1 : (((cn : Nat) : Int) != 48) = true := by simp; omega
            have hq2 : (((cn : Nat) : Int) != 49) = true := by simp; omega
            clear hcn hb
            go_wp2
            refine bodyPost_ret (results_tmp4 rfl _ _ _) rfl ?_
            exact ⟨_, [], 0, pos, 31, rfl, nil_bytes _ _, hB1, .inr (.inl ⟨by rw [HRN.out]; omega, ⟨pos, hp, hgood, hbad, rfl⟩, rfl, rfl, rfl⟩)⟩
        · have hd := decode_high s pos hp (by omega)
          have hle := decode_le s pos
          have hbad : ¬ isLet s pos := by unfold isLet; rw [hb]; omega
          have hnext : ∀ ty, (Instr.next (.pointer (some ⟨it, 0, none⟩)) true ty).run Try.prog wr = _ := fun ty => Lib.run_next_any_at wr it s pos ty hit hp
          have hB1 := Lib.below_iterAt hB (show w.heap.size ≤ it by omega) s (pos + (Utf8.decode s pos).2)
          generalize wr.iterAt it s (pos + (Utf8.decode s pos).2) = W1 at hnext hB1
          generalize (Utf8.decode s pos).1 = r at hnext hd hle
          have hq1 : (((r : Nat) : Int) != 48) = true := by simp; omega
          have hq2 : (((r : Nat) : Int) != 49) = true := by simp; omega
          go_wp2
          refine bodyPost_ret (results_tmp4 rfl _ _ _) rfl ?_
          exact ⟨_, [], 0, pos, 31, rfl, nil_bytes _ _, hB1, .inr (.inl ⟨by rw [HRN.out]; omega, ⟨pos, hp, hgood, hbad, rfl⟩, rfl, rfl, rfl⟩)⟩
      · obtain rfl : pos = s.size := by omega
        have hnext : ∀ ty, (Instr.next (.pointer (some ⟨it, 0, none⟩)) true ty).run Try.prog wr = _ := fun ty => Lib.run_next_end_at wr it s s.size ty hit hp
        have hrs := HA.out hgood
        have hpk := HP.out hgood s.size (Nat.le_refl _)
        have hbt := (hG.own (cap := f) (rowR_fit s rn s.size) (by rw [rowR_length]; omega)).bytes
        rw [rowR_length, ← HFD.out] at hbt
        rw [hrs, hpk] at hbt
        have HBT : Hid _ := hbt
        have HRS : Hid _ := hrs
        clear hbt hpk hrs
        go_wp2
        refine bodyPost_ret (results_tmp4 rfl _ _ _) rfl ?_
        exact ⟨_, _, s.size, 0, 0, by rw [HRS.out]; rfl, HBT.out, hB, .inr (.inr ⟨by rw [HRN.out]; omega, hgood, rfl, rfl, rfl, rfl⟩)⟩

end Go.Proofs.Ytcncjclolpfddaa
