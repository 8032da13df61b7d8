/-
  The contracts of the document's answer for package sum: words, added, even, Alike.
-/
import Derived.Test.YtnlaomjhnndblaaOwn
import Derived.Test.YtnlaomjhnndblaaSums
namespace Go.Proofs.Ytnlaomjhnndblaa
open Go Go.RowKit Go.Shelf

def intsV (xs : List Int) : List Value := xs.map (fun z => .int .i64 z)
theorem intsV_one (xs : List Int) : ∀ u ∈ intsV xs, u.oneCell' = true := by
  intro u hu
  obtain ⟨z, _, rfl⟩ := List.mem_map.1 hu
  rfl

set_option maxHeartbeats 1000000 in
theorem added_calls (base : Nat) (v : Value) (xs : List Int) (hxs : Words xs) (w : World) (hl : xs.length ≤ 1000000) (h : w.ownsRow base 3 1 v xs.length (intsV xs)) :
    Calls Try.prog 65 #[v] w fun e w' => e = .returned (.int .i64 (sumW 0 xs)) ∧ w' = w := by
  obtain ⟨a, cap, rfl, _, hz⟩ := own_form h
  clear h
  go_enter Try.func65, Try.ntmps65
  go_wp2
  go_loop [3, 4] (fun s i => ∃ k : Nat, k ≤ xs.length ∧ i = .int .i64 k ∧ s = .int .i64 (sumW 0 (xs.take k))) (fun _ i => xs.length - (intOf i).toNat)
  case atStart => exact ⟨0, Nat.zero_le _, rfl, rfl⟩
  case round =>
    obtain ⟨k, hk, rfl, rfl⟩ := hrel
    by_cases hlt : k < xs.length
    · rcases hz with hz | ⟨g, rfl, _, _, hc⟩
      · omega
      have hx : xs[k]? = some xs[k] := by simp [hlt]
      have hck := hc k (.int .i64 xs[k]) (by rw [intsV, List.getElem?_map, hx]; rfl)
      have hr := hxs _ (List.mem_of_getElem? hx)
      have hs := sumW_range (xs.take k) 0 (by decide) (fun z hz => hxs z (List.mem_of_mem_take hz))
      have hsn := sumW_snoc 0 xs k _ hx
      clear hc hx
      generalize xs[k] = x at *
      generalize sumW 0 (xs.take k) = t at *
      have HS : Hid (sumW 0 (xs.take (k + 1)) = addW t x) := hsn
      clear hsn
      go_wp2
      all_goals
        refine ⟨⟨k + 1, by omega, by simp, ?_⟩, by simp [intOf]; omega⟩
        rw [HS.out, addW]
        first
          | rw [if_pos (by omega)]
          | rw [if_neg (by omega)]
    · obtain rfl : k = xs.length := by omega
      go_wp2
      go_ret
      exact ⟨by simp, rfl⟩

/-- One more number on a row of the call's own: behind the block that the walk lays for it. -/
theorem own_int {w : World} {base n : Nat} {v : Value} {xs : List Value} (hown : w.ownsRow base 3 1 v n xs) (hbase : base ≤ w.heap.size) (hn : n ≤ 1000000) (x : Int) (ty : TypeId) :
    ∃ v' w', (Builtin.append_ #[109, 109] ty #[v, .slice (some ⟨w.heap.size, 0, none⟩) 1 1]).run Try.prog (w.alloc (.cells #[.int .i64 x] 3)) = .ok v' w' ∧ w'.ownsRow base 3 1 v' (n + 1) (xs ++ [.int .i64 x]) ∧ w.grownBy w' v.ownBlock ∧ (v'.ownBlock = v.ownBlock ∨ ∀ k, v'.ownBlock = some k → w.heap.size ≤ k) := by
  obtain ⟨v', w', h1, h2, h3, h4⟩ := own_append elem_int (c := 1) (m := 1) (hown.alloc (.cells #[.int .i64 x] 3)) (some ⟨w.heap.size, 0, none⟩) [.int .i64 x] rfl (fun h => by cases h) (fun y hy j u hj => by
      cases hy
      match j, hj with
      | 0, hj => simp at hj; subst hj; exact (Boxed.new w _ _).cell) (fun u hu => by simp at hu; subst hu; rfl) (by unfold maxLen; omega) (by omega) (by simp; omega) ty
  refine ⟨v', w', h1, h2, ?_, h4.imp id (fun h k hk => by have := h k hk; simp at this; omega)⟩
  have h5 := World.grownBy_alloc w (.cells #[.int .i64 x] 3) v.ownBlock
  exact ⟨h3.os.trans h5.os, h3.tape.trans h5.tape, h3.output.trans h5.output, Nat.le_trans h5.size h3.size, fun k hk hne => (h3.block k (Nat.lt_of_lt_of_le hk h5.size) hne).trans (h5.block k hk hne)⟩

theorem wordsL_snoc (zs : List Int) (k : Nat) (h : 2 * k < zs.length) : intsV ((wordsL zs).take (k + 1)) = intsV ((wordsL zs).take k) ++ [.int .i64 (wd zs k)] := by
  obtain ⟨hk, e⟩ := List.getElem?_eq_some_iff.1 (wordsL_at zs k h)
  rw [List.take_succ_eq_append_getElem hk, e, intsV, List.map_append]; rfl

set_option maxHeartbeats 1000000 in
set_option maxRecDepth 100000 in
theorem words_ref (a : Option Addr) (n cap : Nat) (zs : List Int) (w : World) (hb : BytesAt w.heap.size w (.slice a n cap) zs) (hl : zs.length ≤ 1000000) :
    Calls Try.prog 66 #[.slice a n cap] w fun e w' => ∃ v, e = .returned v ∧ w'.ownsRow w.heap.size 3 1 v (wordsL zs).length (intsV (wordsL zs)) ∧ Below w.heap.size w w' := by
  obtain ⟨hfit, _, a, cap, e, hz⟩ := hb
  cases e
  have hwl := wordsL_length zs
  go_enter Try.func66, Try.ntmps66
  go_wp2
  go_loopw [3, 4] (fun v i wr => ∃ k : Nat, k ≤ (zs.length + 1) / 2 ∧ i = .int .i64 (2 * k : Nat) ∧ wr.ownsRow w.heap.size 3 1 v k (intsV ((wordsL zs).take k)) ∧ Below w.heap.size w wr) (fun _ i _ => zs.length + 2 - (intOf i).toNat)
  case atStart => exact ⟨0, Nat.zero_le _, rfl, World.ownsRow_nil _ _ _ _, Below.refl _ _⟩
  case round =>
    obtain ⟨k, hk, rfl, hown, hB⟩ := hrel
    by_cases hlt : 2 * k < zs.length
    · rcases hz with hz | ⟨b, off, rfl, hbn, hc⟩
      · omega
      have hsz := hB.size
      have hc0 := (hB.cell (p := ⟨b, off + 2 * k, none⟩) hbn).trans (hc (2 * k) hlt)
      have hf0 := hfit.at (2 * k)
      have hsn := wordsL_snoc zs k hlt
      by_cases hl2 : 2 * k + 1 < zs.length
      · have hc1 := (hB.cell (p := ⟨b, off + (2 * k + 1), none⟩) hbn).trans (hc (2 * k + 1) hl2)
        have hf1 := hfit.at (2 * k + 1)
        have hwd : wd zs k = zs[2 * k]?.getD 0 * 256 + zs[2 * k + 1]?.getD 0 := rfl
        rw [hwd] at hsn
        clear hwd hc
        generalize zs[2 * k]?.getD 0 = c0 at *
        generalize zs[2 * k + 1]?.getD 0 = c1 at *
        obtain ⟨v', w1, hrun, hown', hgrow, _⟩ := own_int hown hsz (by omega) (c0 * 256 + c1) 109
        have H0 : Hid _ := hrun
        have HS : Hid _ := hsn
        clear hrun hsn
        go_wp2_with (at_builtin; refine wpList_append_run rfl _ _ _ _ rfl rfl rfl H0.out ?_; clear H0)
        refine ⟨⟨k + 1, by omega, by simp; omega, ?_, hB.grown hgrow hsz (fun j hj => (hown.lt j hj).1)⟩, by simp [intOf]; omega⟩
        rw [HS.out]; exact hown'
      · have hwd : wd zs k = zs[2 * k]?.getD 0 * 256 := by
          unfold wd
          rw [List.getElem?_eq_none (show zs.length ≤ 2 * k + 1 by omega)]
          simp
        rw [hwd] at hsn
        clear hwd hc
        generalize zs[2 * k]?.getD 0 = c0 at *
        obtain ⟨v', w1, hrun, hown', hgrow, _⟩ := own_int hown hsz (by omega) (c0 * 256) 109
        have H0 : Hid _ := hrun
        have HS : Hid _ := hsn
        clear hrun hsn
        go_wp2_with (at_builtin; refine wpList_append_run rfl _ _ _ _ rfl rfl rfl H0.out ?_; clear H0)
        refine ⟨⟨k + 1, by omega, by simp; omega, ?_, hB.grown hgrow hsz (fun j hj => (hown.lt j hj).1)⟩, by simp [intOf]; omega⟩
        rw [HS.out]; exact hown'
    · have hkk : k = (zs.length + 1) / 2 := by omega
      go_wp2
      go_ret
      refine ⟨_, rfl, ?_, hB⟩
      rw [hwl, ← hkk]
      have e : (wordsL zs).take k = wordsL zs := List.take_of_length_le (by omega)
      rw [e] at hown
      exact hown

set_option maxHeartbeats 400000 in
theorem even_yes (a a' : Option Addr) (n cap cap' : Nat) (w : World) (hn : n ≤ 140737488351232) (h : n % 2 = 0) :
    Calls Try.prog 83 #[.slice a n cap, .slice a' n cap'] w fun e w' => e = .returned (.bool true) ∧ w' = w := by
  have hm : ((n : Int) % 2 == 0) = true := beq_iff_eq.2 (by omega)
  go_enter Try.func83, Try.ntmps83
  go_wp2
  go_ret
  exact ⟨rfl, rfl⟩

set_option maxHeartbeats 400000 in
theorem even_no (a a' : Option Addr) (n n' cap cap' : Nat) (w : World) (hn : n ≤ 140737488351232) (hn' : n' ≤ 140737488351232) (h : ¬ (n = n' ∧ n % 2 = 0)) :
    Calls Try.prog 83 #[.slice a n cap, .slice a' n' cap'] w fun e w' => e = .returned (.bool false) ∧ w' = w := by
  by_cases h1 : n = n'
  · subst h1
    have hm : ((n : Int) % 2 == 0) = false := beq_eq_false_iff_ne.2 (by omega)
    clear h
    go_enter Try.func83, Try.ntmps83
    go_wp2
    go_ret
    exact ⟨rfl, rfl⟩
  · have hm : ((n : Int) == (n' : Int)) = false := beq_eq_false_iff_ne.2 (by omega)
    clear h h1
    go_enter Try.func83, Try.ntmps83
    go_wp2
    go_ret
    exact ⟨rfl, rfl⟩

end Go.Proofs.Ytnlaomjhnndblaa
