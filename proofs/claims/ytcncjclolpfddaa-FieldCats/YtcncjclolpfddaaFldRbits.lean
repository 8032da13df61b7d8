/-
  The contracts of the document's bits and bytes: all bits of a row, and the row of bits.
-/
import Derived.Test.YtcncjclolpfddaaFldRef
import Derived.Deep.RegionLaw
namespace Go.Proofs.Ytcncjclolpfddaa
set_option linter.unusedVariables false
set_option linter.unusedSimpArgs false
open Go Go.RowKit
attribute [local go_sem] Oper.semAt_some

/-- The first k bits of a row. -/
def bitsTo (zs : List Int) (k : Nat) : List Nat := (List.range k).map (bitN zs)
theorem bitsTo_succ (zs : List Int) (k : Nat) : numsV (bitsTo zs (k + 1)) = numsV (bitsTo zs k) ++ [.int .u64 (bitN zs k : Nat)] := by
  simp [numsV, bitsTo, List.range_succ]

set_option maxHeartbeats 1000000 in
theorem bits_ref (v : Value) (zs : List Int) (w : World) (h : BytesAt w.heap.size w v zs) (hl : zs.length ≤ 100000) :
    Calls Try.prog 35 #[v] w fun e w' => ∃ r, e = .returned r ∧ w'.ownsRow w.heap.size 23 1 r (8 * zs.length) (numsV (bitsL zs)) ∧ Below w.heap.size w w' := by
  obtain ⟨_, _, a, cap, rfl, _⟩ := id h
  go_enter Try.func35, Try.ntmps35
  go_wp2
  go_loopw [3, 4] (fun x i wr => ∃ k : Nat, k ≤ 8 * zs.length ∧ i = .int .i64 k ∧ wr.ownsRow w.heap.size 23 1 x k (numsV (bitsTo zs k)) ∧ Below w.heap.size w wr) (fun _ i _ => 8 * zs.length - (intOf i).toNat)
  case atStart => exact ⟨0, Nat.zero_le _, rfl, World.ownsRow_nil _ _ _ _, Below.refl _ _⟩
  case round =>
    obtain ⟨k, hk, rfl, hown, hB⟩ := hrel
    have hsz := hB.size
    by_cases hlt : k < 8 * zs.length
    · have hc := Bit_calls _ zs k _ _ (h.below hB) hlt
      have hsn := bitsTo_succ zs k
      generalize bitN zs k = bb at *
      obtain ⟨v', w1, hrun, hown', hgrow⟩ := own_u64 hown hsz (by omega) (bb : Nat) 66
      have H0 : Hid _ := hrun
      have HS : Hid _ := hsn
      have HC : Hid _ := hc
      clear hrun hsn hc h
      go_wp2_with fail
      refine Calls.mono HC.out ?_
      rintro e w2 ⟨rfl, rfl⟩
      go_wp2_with (at_builtin; refine wpList_append_run rfl _ _ _ _ rfl rfl rfl H0.out ?_; clear H0)
      refine ⟨⟨k + 1, by omega, by simp, ?_, hB.grown hgrow hsz (fun j hj => (hown.lt j hj).1)⟩, by simp [intOf]; omega⟩
      rw [HS.out]; exact hown'
    · obtain rfl : k = 8 * zs.length := by omega
      go_wp2
      go_ret
      exact ⟨_, rfl, hown, hB⟩

/-- The slice value v holds the numbers l, in a block below n₀. -/
def NumsAt (n₀ : Nat) (w : World) (v : Value) (l : List Nat) : Prop :=
  ∃ a cap, v = .slice a l.length cap ∧ (l.length = 0 ∨ ∃ g, a = some ⟨g, 0, none⟩ ∧ g < n₀ ∧ ∀ j, j < l.length → w.cell? ⟨g, j, none⟩ = some (.int .u64 (l[j]?.getD 0 : Nat)))

theorem own_numsAt {w : World} {base n : Nat} {v : Value} {l : List Nat} (h : w.ownsRow base 23 1 v n (numsV l)) : NumsAt w.heap.size w v l := by
  obtain ⟨a, cap, rfl, hz⟩ := own_nums h
  refine ⟨a, cap, rfl, hz.imp id ?_⟩
  rintro ⟨g, rfl, ho⟩
  exact ⟨g, rfl, ho.block, ho.cell⟩

theorem shl_tab (k : Nat) (hk : k < 8) : ((1 : Int) * 2 ^ k) = ((2 ^ k : Nat) : Int) := by simp
theorem wrap_tab : ∀ k, k < 8 → IntKind.u8.wrap (2 ^ k) = 2 ^ k := by decide
theorem pow_tab : ∀ k, k < 8 → (0 : Int) < 2 ^ k ∧ (2 : Int) ^ k ≤ 128 := by decide

set_option maxHeartbeats 4000000 in
theorem bytes_ref (v : Value) (l : List Nat) (w : World) (h : NumsAt w.heap.size w v l) (hl : l.length ≤ 1000000) :
    Calls Try.prog 36 #[v] w fun e w' => ∃ r, e = .returned r ∧ OwnB w.heap.size w' r (packL l l.length) ∧ Below w.heap.size w w' := by
  obtain ⟨a, cap, rfl, hz⟩ := h
  obtain ⟨i, hi, hz0, hs, hby⟩ := info_parts info_u8
  have hdiv : ((l.length : Int) + 7) / 8 = ((l.length + 7) / 8 : Nat) := by omega
  have HD : Hid _ := hdiv
  clear hdiv
  go_enter Try.func36, Try.ntmps36
  go_wp2_with (at_make; refine wpList_make_full _ rfl _ _ _ rfl w.heap.size 5 i (.int .u8 0) 1 Try.underlying22 hi hz0 hs .i64 .i64 _ _ ((l.length + 7) / 8) rfl rfl HD.out HD.out (by rw [hby]; omega) (by unfold maxLen; omega) (Nat.le_refl _) ?_; intro X hown hgr; have hG := own_made hown; have hB0 := (Below.refl _ w).grown hgr (Nat.le_refl _) (fun k hk => by cases hk); clear hown hgr)
  generalize hg0 : w.heap.size = g0 at *
  go_loopw [4] (fun i wr => ∃ k : Nat, k ≤ l.length ∧ i = .int .i64 k ∧ OwnG g0 wr g0 (packL l k) ∧ Below g0 w wr) (fun i _ => l.length - (intOf i).toNat)
  case atStart => exact ⟨0, Nat.zero_le _, rfl, hG, hB0⟩
  case round =>
    clear hG hB0
    obtain ⟨k, hk, rfl, hG, hB⟩ := hrel
    by_cases hlt : k < l.length
    · rcases hz with hz | ⟨b, rfl, hbn, hc⟩
      · omega
      have hc0 := (hB.cell (p := ⟨b, k, none⟩) hbn).trans (hc k hlt)
      have hset : packL l (k + 1) = (packL l k).set (k / 8) ((setN ((packL l k)[k / 8]?.getD 0).toNat (7 - k % 8) (if l[k]?.getD 0 = 1 then 1 else 0) : Nat) : Int) := rfl
      have hbz : bk ((packL l k)[k / 8]?.getD 0).toNat (7 - k % 8) = 0 := by
        have := bitN_packL l k k (by omega)
        simpa [bitN] using this
      have hfit := fit_at (packL_fit l k) (k / 8)
      have hlen : (packL l k).length = (l.length + 7) / 8 := packL_length ..
      have hcc := hG.cell (k / 8) (by omega)
      have hop := hG.open (k / 8)
      have hos := hG.set (k / 8) (by omega)
      generalize hy : packL l (k + 1) = y at *
      have HY : Hid _ := hy
      clear hy
      generalize packL l k = x at *
      generalize hxz : x[k / 8]?.getD 0 = z at *
      generalize l[k]?.getD 0 = b1 at *
      clear hc hz0 hs hby hi
      by_cases h1 : b1 = 1
      · subst h1
        rw [if_pos rfl, ← tab_add _ _ hbz] at hset
        have hpw := pow_tab (7 - k % 8) (by omega)
        have hwr := wrap_tab (7 - k % 8) (by omega)
        have hlt2 := tab_lt (7 - k % 8) (by omega) 1 (by decide) z.toNat (by omega)
        rw [← tab_add _ _ hbz] at hlt2
        have hlt3 : z + 2 ^ (7 - k % 8) < 256 := by
          have : ((z.toNat + 2 ^ (7 - k % 8) : Nat) : Int) < 256 := by omega
          push_cast at this
          omega
        have HS : Hid _ := hset
        have HO : Hid _ := hos
        have HB : Hid _ := hB
        clear hset hos hbz hlt2 hB
        go_wp2
        go_region
        go_wp2
        refine ⟨⟨k + 1, by omega, by simp, ?_, (HB.out.trans (below_set _ _ (Nat.le_refl _))).drew⟩, by simp [intOf]; omega⟩
        have ho := HO.out (z + 2 ^ (7 - k % 8))
        have e2 : ((z.toNat + 2 ^ (7 - k % 8) : Nat) : Int) = z + 2 ^ (7 - k % 8) := by
          push_cast
          omega
        rw [HY.out, HS.out, e2]
        exact ⟨ho.low, ho.typed, ho.cell⟩
      · rw [if_neg h1, ← tab_same _ _ hbz] at hset
        have hne : (((b1 : Nat) : Int) == 1) = false := by simp; omega
        have e1 : y = x := by
          rw [hset, Int.toNat_of_nonneg hfit.1, ← hxz]
          refine List.ext_getElem? fun j => ?_
          by_cases c : k / 8 = j
          · subst c
            rw [List.getElem?_set_self (by omega)]
            rw [List.getElem?_eq_getElem (by omega)]
            rfl
          · rw [List.getElem?_set_ne c]
        have HS : Hid _ := hset
        have HE : Hid _ := e1
        clear hset hos hbz e1
        go_wp2
        refine ⟨⟨k + 1, by omega, by simp, ?_, hB⟩, by simp [intOf]; omega⟩
        rw [HY.out, HE.out]
        exact hG
    · obtain rfl : k = l.length := by omega
      go_wp2
      go_ret
      subst hg0
      refine ⟨_, rfl, ?_, hB⟩
      have := hG.own (cap := (l.length + 7) / 8) (packL_fit l l.length) (by simp; omega)
      rw [packL_length] at this
      exact this

end Go.Proofs.Ytcncjclolpfddaa
