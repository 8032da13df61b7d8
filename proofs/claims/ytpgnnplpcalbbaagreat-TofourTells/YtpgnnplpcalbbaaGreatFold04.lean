/-
  The contracts of the document's answer for package sum: words, added, even, Alike.
  The contracts of the document's answer for package sum: Update, Neutral.
  Slices of slices of bytes: what an argument's reading gives; the contracts of the statements' own few and of the document's answer for Fold; Good.
-/
import Derived.Test.YtpgnnplpcalbbaaGreatFold03
import Derived.Test.YtpgnnplpcalbbaaGreatFold01
import Derived.Deep.Matrix
import Derived.ProofKit
set_option linter.unusedVariables false
set_option linter.unusedSimpArgs false
namespace Go.Proofs.YtpgnnplpcalbbaaGreat
open Go Go.RowKit Go.Shelf
def intsV (xs : List Int) : List Value := xs.map (fun z => .int .i64 z)
theorem intsV_one (xs : List Int) : ∀ u ∈ intsV xs, u.oneCell' = true := by
  intro u hu
  obtain ⟨z, _, rfl⟩ := List.mem_map.1 hu
  rfl
set_option maxHeartbeats 1000000 in
theorem added_calls (base : Nat) (v : Value) (xs : List Int) (hxs : Words xs) (w : World) (hl : xs.length ≤ 1000000) (h : w.ownsRow base 3 1 v xs.length (intsV xs)) :
    Calls Tryz.prog 163 #[v] w fun e w' => e = .returned (.int .i64 (sumW 0 xs)) ∧ w' = w := by
  obtain ⟨a, cap, rfl, _, hz⟩ := own_form h
  clear h
  go_enter Tryz.func163, Tryz.ntmps163
  go_wp2
  go_loop [3, 4] (fun s i => ∃ k : Nat, k ≤ xs.length ∧ i = .int .i64 k ∧ s = .int .i64 (sumW 0 (xs.take k))) (fun _ i => xs.length - (intOf i).toNat)
  case atStart => exact ⟨0, Nat.zero_le _, rfl, rfl⟩
  case round =>
    obtain ⟨k, hk, rfl, rfl⟩ := hrel
    by_cases hlt : k < xs.length
    · rcases hz with hz | ⟨g, rfl, _, _, hc⟩
      · omega
      have hx : xs[k]? = some xs[k] := by simp [hlt]
      have hck := hc k (.int .i64 xs[k]) (by rw [intsV, List.getElem?_map, hx]; rfl)
      have hr := hxs _ (List.mem_of_getElem? hx)
      have hs := sumW_range (xs.take k) 0 (by decide) (fun z hz => hxs z (List.mem_of_mem_take hz))
      have hsn := sumW_snoc 0 xs k _ hx
      clear hc hx
      generalize xs[k] = x at *
      generalize sumW 0 (xs.take k) = t at *
      have HS : Hid (sumW 0 (xs.take (k + 1)) = addW t x) := hsn
      clear hsn
      go_wp2
      all_goals
        refine ⟨⟨k + 1, by omega, by simp, ?_⟩, by simp [intOf]; omega⟩
        rw [HS.out, addW]
        first
          | rw [if_pos (by omega)]
          | rw [if_neg (by omega)]
    · obtain rfl : k = xs.length := by omega
      go_wp2
      go_ret
      exact ⟨by simp, rfl⟩
/-- One more number on a row of the call's own: behind the block that the walk lays for it. -/
theorem own_int {w : World} {base n : Nat} {v : Value} {xs : List Value} (hown : w.ownsRow base 3 1 v n xs) (hbase : base ≤ w.heap.size) (hn : n ≤ 1000000) (x : Int) (ty : TypeId) :
    ∃ v' w', (Builtin.append_ #[199, 199] ty #[v, .slice (some ⟨w.heap.size, 0, none⟩) 1 1]).run Tryz.prog (w.alloc (.cells #[.int .i64 x] 3)) = .ok v' w' ∧ w'.ownsRow base 3 1 v' (n + 1) (xs ++ [.int .i64 x]) ∧ w.grownBy w' v.ownBlock ∧ (v'.ownBlock = v.ownBlock ∨ ∀ k, v'.ownBlock = some k → w.heap.size ≤ k) := by
  obtain ⟨v', w', h1, h2, h3, h4⟩ := own_append elem_int (c := 1) (m := 1) (hown.alloc (.cells #[.int .i64 x] 3)) (some ⟨w.heap.size, 0, none⟩) [.int .i64 x] rfl (fun h => by cases h) (fun y hy j u hj => by
      cases hy
      match j, hj with
      | 0, hj => simp at hj; subst hj; exact (Boxed.new w _ _).cell) (fun u hu => by simp at hu; subst hu; rfl) (by unfold maxLen; omega) (by omega) (by simp; omega) ty
  refine ⟨v', w', h1, h2, ?_, h4.imp id (fun h k hk => by have := h k hk; simp at this; omega)⟩
  have h5 := World.grownBy_alloc w (.cells #[.int .i64 x] 3) v.ownBlock
  exact ⟨h3.os.trans h5.os, h3.tape.trans h5.tape, h3.output.trans h5.output, Nat.le_trans h5.size h3.size, fun k hk hne => (h3.block k (Nat.lt_of_lt_of_le hk h5.size) hne).trans (h5.block k hk hne)⟩
theorem wordsL_snoc (zs : List Int) (k : Nat) (h : 2 * k < zs.length) : intsV ((wordsL zs).take (k + 1)) = intsV ((wordsL zs).take k) ++ [.int .i64 (wd zs k)] := by
  obtain ⟨hk, e⟩ := List.getElem?_eq_some_iff.1 (wordsL_at zs k h)
  rw [List.take_succ_eq_append_getElem hk, e, intsV, List.map_append]; rfl
set_option maxHeartbeats 1000000 in
set_option maxRecDepth 100000 in
theorem words_ref (a : Option Addr) (n cap : Nat) (zs : List Int) (w : World) (hb : BytesAt w.heap.size w (.slice a n cap) zs) (hl : zs.length ≤ 1000000) :
    Calls Tryz.prog 164 #[.slice a n cap] w fun e w' => ∃ v, e = .returned v ∧ w'.ownsRow w.heap.size 3 1 v (wordsL zs).length (intsV (wordsL zs)) ∧ Below w.heap.size w w' := by
  obtain ⟨hfit, _, a, cap, e, hz⟩ := hb
  cases e
  have hwl := wordsL_length zs
  go_enter Tryz.func164, Tryz.ntmps164
  go_wp2
  go_loopw [3, 4] (fun v i wr => ∃ k : Nat, k ≤ (zs.length + 1) / 2 ∧ i = .int .i64 (2 * k : Nat) ∧ wr.ownsRow w.heap.size 3 1 v k (intsV ((wordsL zs).take k)) ∧ Below w.heap.size w wr) (fun _ i _ => zs.length + 2 - (intOf i).toNat)
  case atStart => exact ⟨0, Nat.zero_le _, rfl, World.ownsRow_nil _ _ _ _, Below.refl _ _⟩
  case round =>
    obtain ⟨k, hk, rfl, hown, hB⟩ := hrel
    by_cases hlt : 2 * k < zs.length
    · rcases hz with hz | ⟨b, off, rfl, hbn, hc⟩
      · omega
      have hsz := hB.size
      have hc0 := (hB.cell (p := ⟨b, off + 2 * k, none⟩) hbn).trans (hc (2 * k) hlt)
      have hf0 := hfit.at (2 * k)
      have hsn := wordsL_snoc zs k hlt
      by_cases hl2 : 2 * k + 1 < zs.length
      · have hc1 := (hB.cell (p := ⟨b, off + (2 * k + 1), none⟩) hbn).trans (hc (2 * k + 1) hl2)
        have hf1 := hfit.at (2 * k + 1)
        have hwd : wd zs k = zs[2 * k]?.getD 0 * 256 + zs[2 * k + 1]?.getD 0 := rfl
        rw [hwd] at hsn
        clear hwd hc
        generalize zs[2 * k]?.getD 0 = c0 at *
        generalize zs[2 * k + 1]?.getD 0 = c1 at *
        obtain ⟨v', w1, hrun, hown', hgrow, _⟩ := own_int hown hsz (by omega) (c0 * 256 + c1) 199
        have H0 : Hid _ := hrun
        have HS : Hid _ := hsn
        clear hrun hsn
        go_wp2_with (at_builtin; refine wpList_append_run rfl _ _ _ _ rfl rfl rfl H0.out ?_; clear H0)
        refine ⟨⟨k + 1, by omega, by simp; omega, ?_, hB.grown hgrow hsz (fun j hj => (hown.lt j hj).1)⟩, by simp [intOf]; omega⟩
        rw [HS.out]; exact hown'
      · have hwd : wd zs k = zs[2 * k]?.getD 0 * 256 := by
          unfold wd
          rw [List.getElem?_eq_none (show zs.length ≤ 2 * k + 1 by omega)]
          simp
        rw [hwd] at hsn
        clear hwd hc
        generalize zs[2 * k]?.getD 0 = c0 at *
        obtain ⟨v', w1, hrun, hown', hgrow, _⟩ := own_int hown hsz (by omega) (c0 * 256) 199
        have H0 : Hid _ := hrun
        have HS : Hid _ := hsn
        clear hrun hsn
        go_wp2_with (at_builtin; refine wpList_append_run rfl _ _ _ _ rfl rfl rfl H0.out ?_; clear H0)
        refine ⟨⟨k + 1, by omega, by simp; omega, ?_, hB.grown hgrow hsz (fun j hj => (hown.lt j hj).1)⟩, by simp [intOf]; omega⟩
        rw [HS.out]; exact hown'
    · have hkk : k = (zs.length + 1) / 2 := by omega
      go_wp2
      go_ret
      refine ⟨_, rfl, ?_, hB⟩
      rw [hwl, ← hkk]
      have e : (wordsL zs).take k = wordsL zs := List.take_of_length_le (by omega)
      rw [e] at hown
      exact hown
set_option maxHeartbeats 400000 in
theorem even_yes (a a' : Option Addr) (n cap cap' : Nat) (w : World) (hn : n ≤ 140737488351232) (h : n % 2 = 0) :
    Calls Tryz.prog 216 #[.slice a n cap, .slice a' n cap'] w fun e w' => e = .returned (.bool true) ∧ w' = w := by
  have hm : ((n : Int) % 2 == 0) = true := beq_iff_eq.2 (by omega)
  go_enter Tryz.func216, Tryz.ntmps216
  go_wp2
  go_ret
  exact ⟨rfl, rfl⟩
set_option maxHeartbeats 400000 in
theorem even_no (a a' : Option Addr) (n n' cap cap' : Nat) (w : World) (hn : n ≤ 140737488351232) (hn' : n' ≤ 140737488351232) (h : ¬ (n = n' ∧ n % 2 = 0)) :
    Calls Tryz.prog 216 #[.slice a n cap, .slice a' n' cap'] w fun e w' => e = .returned (.bool false) ∧ w' = w := by
  by_cases h1 : n = n'
  · subst h1
    have hm : ((n : Int) % 2 == 0) = false := beq_eq_false_iff_ne.2 (by omega)
    clear h
    go_enter Tryz.func216, Tryz.ntmps216
    go_wp2
    go_ret
    exact ⟨rfl, rfl⟩
  · have hm : ((n : Int) == (n' : Int)) = false := beq_eq_false_iff_ne.2 (by omega)
    clear h h1
    go_enter Tryz.func216, Tryz.ntmps216
    go_wp2
    go_ret
    exact ⟨rfl, rfl⟩
set_option maxHeartbeats 400000 in
theorem alike_ref (a b : Int) (ha : 0 ≤ a ∧ a ≤ 65535) (hb : 0 ≤ b ∧ b ≤ 65535) (w : World) :
    Calls Tryz.prog 53 #[.int .u16 a, .int .u16 b] w fun e w' => e = .returned (.bool (alikeB a b)) ∧ w' = w := by
  go_enter Tryz.func53, Tryz.ntmps53
  go_wp2
  go_ret
  refine ⟨ret_bool ?_, rfl⟩
  unfold alikeB
  rw [Bool.eq_iff_iff]
  simp
end Go.Proofs.YtpgnnplpcalbbaaGreat
namespace Go.Proofs.YtpgnnplpcalbbaaGreat
open Go Go.RowKit Go.Shelf
/-- A contract, kept out of the walk's sight. -/
def HidCalls (f : FuncId) (args : Array Value) (w : World) (R : Ending → World → Prop) : Prop := Calls Tryz.prog f args w R
theorem calls_hide {f : FuncId} {args : Array Value} {w : World} {R : Ending → World → Prop} (h : Calls Tryz.prog f args w R) : HidCalls f args w R := h
theorem calls_show {f : FuncId} {args : Array Value} {w : World} {R : Ending → World → Prop} (h : HidCalls f args w R) : Calls Tryz.prog f args w R := h
/-- A row of one's own lies on while nothing that lay has turned. -/
theorem own_below {w w' : World} {base n : Nat} {e : TypeId} {v : Value} {xs : List Value} (h : w.ownsRow base e 1 v n xs) (hb : Below w.heap.size w w') : w'.ownsRow base e 1 v n xs :=
  h.kept (row := none) ⟨hb.os, hb.tape, hb.output, hb.size, fun k hk _ => hb.block k hk⟩ (by cases hv : v.ownBlock <;> simp)
theorem own_lit (w : World) (x : Int) : (w.alloc (.cells #[.int .i64 x] 3)).ownsRow w.heap.size 3 1 (.slice (some ⟨w.heap.size, 0, none⟩) 1 1) 1 (intsV [x]) :=
  ⟨rfl, .inr ⟨w.heap.size, 1, _, rfl, Nat.le_refl _, World.alloc_heap_new w _, Nat.le_refl _, by decide, rfl, rfl⟩⟩
/-- The words of a row, turned, behind the words ys, when k of them have come. -/
def turnedTo (ys xs : List Int) (k : Nat) : List Int := ys ++ (xs.take k).map (fun z => 65535 - z)
theorem turnedTo_succ (ys xs : List Int) (k : Nat) (x : Int) (h : xs[k]? = some x) : intsV (turnedTo ys xs (k + 1)) = intsV (turnedTo ys xs k) ++ [.int .i64 (65535 - x)] := by
  obtain ⟨hk, rfl⟩ := List.getElem?_eq_some_iff.1 h
  rw [turnedTo, turnedTo, List.take_succ_eq_append_getElem hk, List.map_append, ← List.append_assoc, intsV, List.map_append]
  rfl
theorem turnedTo_length (ys xs : List Int) (k : Nat) (h : k ≤ xs.length) : (turnedTo ys xs k).length = ys.length + k := by
  simp [turnedTo]; omega
/-- One row of the call's own behind another. -/
theorem own_join {w : World} {base base' n m : Nat} {v u : Value} {xs ys : List Int} (hv : w.ownsRow base 3 1 v n (intsV xs)) (hu : w.ownsRow base' 3 1 u m (intsV ys)) (hbase : base ≤ w.heap.size) (hn : n + m ≤ 1000000) (ty : TypeId) :
    ∃ v' w', (Builtin.append_ #[199, 199] ty #[v, u]).run Tryz.prog w = .ok v' w' ∧ w'.ownsRow base 3 1 v' (n + m) (intsV (xs ++ ys)) ∧ w.grownBy w' v.ownBlock := by
  obtain ⟨a, cap, rfl, hl, hz⟩ := own_form hu
  obtain ⟨v', w', h1, h2, h3, _⟩ := own_append elem_int (c := cap) (m := m) hv a (intsV ys) hl (fun e => by
      rcases hz with hz | ⟨g, hg, _⟩
      · exact hz
      · rw [e] at hg; cases hg) (fun x hx j y hj => by
      rcases hz with hz | ⟨g, hg, _, _, hc⟩
      · have := (List.getElem?_eq_some_iff.1 hj).1; omega
      · rw [hx] at hg
        cases hg
        rw [Go.WideShapes.add_plain, Nat.zero_add]
        exact hc j y hj) (intsV_one ys) (by unfold maxLen; omega) (by omega) hbase ty
  refine ⟨v', w', h1, ?_, h3⟩
  rw [intsV, List.map_append]
  exact h2
theorem turnedTo_all (x : Int) (hx : 0 ≤ x ∧ x ≤ 65535) (xs ys : List Int) : sumW 0 (turnedTo [x] xs xs.length ++ ys) = sumW (sumW x (xs.map (fun z => 65535 - z))) ys := by
  have e : addW 0 x = x := by unfold addW; rw [if_pos (by omega)]; omega
  rw [turnedTo, List.take_length, sumW_append, sumW_append]
  have e2 : sumW 0 [x] = x := e
  rw [e2]
theorem turnedTo_words (zs xs ys : List Int) (k : Nat) (hz : Words zs) (h : Words xs) (hy : Words ys) : Words (turnedTo zs xs k ++ ys) := by
  refine Words.append (Words.append hz (turn_words ?_)) hy
  exact fun z hz => h z (List.mem_of_mem_take hz)
set_option maxHeartbeats 2000000 in
theorem update_ref (was : Int) (hwas : 0 ≤ was ∧ was ≤ 65535) (a a' : Option Addr) (n cap cap' : Nat) (zs ys : List Int) (w : World) (hz : BytesAt w.heap.size w (.slice a n cap) zs) (hy : BytesAt w.heap.size w (.slice a' n cap') ys) (h2 : n % 2 = 0) (hs : n ≤ 3000) :
    Calls Tryz.prog 155 #[.int .u16 was, .slice a n cap, .slice a' n cap'] w fun e w' =>
      e = .returned (.tuple #[.int .u16 (65535 - sumW (sumW (65535 - was) ((wordsL zs).map (fun z => 65535 - z))) (wordsL ys)), .int .i64 0]) ∧ Below w.heap.size w w' := by
  have hn1 : zs.length = n := by obtain ⟨_, _, e, _⟩ := hz.val; cases e; rfl
  have hn2 : ys.length = n := by obtain ⟨_, _, e, _⟩ := hy.val; cases e; rfl
  have hw1 := wordsL_words hz.fit
  have hw2 := wordsL_words hy.fit
  have hl1 : (wordsL zs).length ≤ 3000 := by rw [wordsL_length]; omega
  have hl2 : (wordsL ys).length ≤ 3000 := by rw [wordsL_length]; omega
  have hq1 : zs.length ≤ 3000 := by omega
  have hq2 : ys.length ≤ 3000 := by omega
  clear hn1 hn2
  go_enter Tryz.func155, Tryz.ntmps155
  go_wp2_with fail
  refine (even_yes a a' n cap cap' _ (by omega) h2).mono ?_
  rintro e w' ⟨rfl, rfl⟩
  have hB0 : Below w'.heap.size w' (w'.alloc (.cells #[.int .i64 (65535 - was)] 3)) := (Below.refl _ _).alloc (Nat.le_refl _) _
  go_wp2_with fail
  refine (words_ref a n cap zs _ (hz.later hB0) (by omega)).mono ?_
  rintro e w2 ⟨va, rfl, hva, hB1⟩
  have hB2 := hB0.trans (hB1.mono hB0.size)
  have hvl := own_below (own_lit w' (65535 - was)) hB1
  obtain ⟨aa, capa, rfl, _, _⟩ := own_form hva
  have hsep : ∀ g, (Value.slice aa (wordsL zs).length capa).ownBlock = some g → (Value.slice (some ⟨w'.heap.size, 0, none⟩) 1 1).ownBlock ≠ some g := by
    intro g hg e
    have := (hva.lt g hg).1
    simp [Value.ownBlock] at e
    simp at this
    omega
  have hrow : w2.ownsRow w'.heap.size 3 1 (.slice (some ⟨w'.heap.size, 0, none⟩) 1 1) (1 + 0) (intsV (turnedTo [65535 - was] (wordsL zs) 0)) := hvl
  generalize hbse : (w'.alloc (.cells #[.int .i64 (65535 - was)] 3)).heap.size = B1 at *
  clear hbse hB0 hB1 hvl
  go_wp2_with fail
  go_loopw [8, 10] (fun v i wr => ∃ k : Nat, k ≤ (wordsL zs).length ∧ i = .int .i64 k ∧ wr.ownsRow w'.heap.size 3 1 v (1 + k) (intsV (turnedTo [65535 - was] (wordsL zs) k)) ∧ wr.ownsRow B1 3 1 (.slice aa (wordsL zs).length capa) (wordsL zs).length (intsV (wordsL zs)) ∧ (∀ g, (Value.slice aa (wordsL zs).length capa).ownBlock = some g → v.ownBlock ≠ some g) ∧ Below w'.heap.size w' wr) (fun _ i _ => (wordsL zs).length - (intOf i).toNat)
  case atStart => exact ⟨0, Nat.zero_le _, rfl, hrow, hva, hsep, hB2⟩
  case round =>
    clear hrow hva hsep hB2
    obtain ⟨k, hk, rfl, hrow, hva, hsep, hB⟩ := hrel
    have hsz := hB.size
    by_cases hlt : k < (wordsL zs).length
    · obtain ⟨aa', capa', e, _, hza⟩ := own_form hva
      cases e
      rcases hza with hza | ⟨g, rfl, _, hg, hc⟩
      · omega
      have hx : (wordsL zs)[k]? = some (wordsL zs)[k] := by simp [hlt]
      have hck := hc k (.int .i64 (wordsL zs)[k]) (by rw [intsV, List.getElem?_map, hx]; rfl)
      have hr := hw1 _ (List.mem_of_getElem? hx)
      have hsn := turnedTo_succ [65535 - was] (wordsL zs) k _ hx
      clear hc hx
      generalize (wordsL zs)[k] = x at *
      obtain ⟨v', w1, hrun, hown', hgrow, hbl⟩ := own_int hrow hsz (by omega) (65535 - x) 199
      have H0 : Hid _ := hrun
      have HS : Hid _ := hsn
      have HB : Hid _ := hbl
      clear hrun hsn hbl
      go_wp2_with (at_builtin; refine wpList_append_run rfl _ _ _ _ rfl rfl rfl H0.out ?_; clear H0)
      refine ⟨⟨k + 1, by omega, by simp, ?_, hva.kept hgrow (.inr (fun e => hsep g rfl e.symm)), ?_, hB.grown hgrow hsz (fun j hj => (hrow.lt j hj).1)⟩, by simp [intOf]; omega⟩
      · rw [HS.out]; exact hown'
      · intro g' hg'
        rcases HB.out with e | e
        · rw [e]; exact hsep g' hg'
        · intro e'
          have := e g' e'
          simp [Value.ownBlock] at hg'
          omega
    · obtain rfl : k = (wordsL zs).length := by omega
      go_wp2_with fail
      refine (words_ref a' n cap' ys _ (hy.later hB) (by omega)).mono ?_
      rintro e w3 ⟨vb, rfl, hvb, hB3⟩
      have hrow3 := own_below hrow hB3
      have hB4 := hB.trans (hB3.mono hB.size)
      have hB3s := hB3.size
      obtain ⟨v', w4, hrun, hown', hgrow⟩ := own_join hrow3 hvb (by omega) (by omega) 199
      have hB5 := hB4.grown hgrow (by omega) (fun j hj => (hrow3.lt j hj).1)
      have hww := turnedTo_words [65535 - was] (wordsL zs) (wordsL ys) (wordsL zs).length (fun z hz => by simp at hz; omega) hw1 hw2
      have hlen : (turnedTo [65535 - was] (wordsL zs) (wordsL zs).length ++ wordsL ys).length = 1 + (wordsL zs).length + (wordsL ys).length := by
        rw [List.length_append, turnedTo_length _ _ _ (Nat.le_refl _)]; rfl
      have hr1 := sumW_range _ (65535 - was) (by omega) (turn_words hw1)
      have hr2 := sumW_range _ _ hr1 hw2
      have hadd := added_calls w'.heap.size v' _ hww w4 (by omega) (by rw [hlen]; exact hown')
      rw [turnedTo_all _ (by omega)] at hadd
      clear hww hlen hr1 hown' hgrow hrow3 hvb hrow hva hsep
      generalize ht : sumW (sumW (65535 - was) ((wordsL zs).map (fun z => 65535 - z))) (wordsL ys) = t at *
      have HT : Hid _ := ht
      clear ht
      have HA := calls_hide hadd
      have H0 : Hid _ := hrun
      clear hadd hrun
      go_wp2_with (at_builtin; refine wpList_append_run rfl _ _ _ _ rfl rfl rfl H0.out ?_; clear H0)
      refine (calls_show HA).mono ?_
      rintro e w5 ⟨rfl, rfl⟩
      go_wp2
      go_ret2
      exact ⟨by rw [HT.out]; rfl, hB5⟩
set_option maxHeartbeats 400000 in
theorem update_ref_no (was : Int) (a a' : Option Addr) (n n' cap cap' : Nat) (w : World) (hn : n ≤ 140737488351232) (hn' : n' ≤ 140737488351232) (h : ¬ (n = n' ∧ n % 2 = 0)) :
    Calls Tryz.prog 155 #[.int .u16 was, .slice a n cap, .slice a' n' cap'] w fun e w' => e = .returned (.tuple #[.int .u16 0, .int .i64 10]) ∧ w' = w := by
  have H : Hid (¬ (n = n' ∧ n % 2 = 0)) := h
  clear h
  go_enter Tryz.func155, Tryz.ntmps155
  go_wp2_with fail
  refine (even_no a a' n n' cap cap' _ hn hn' H.out).mono ?_
  rintro e w' ⟨rfl, rfl⟩
  go_wp2
  go_ret2
  exact ⟨rfl, rfl⟩
theorem turnedTo_sum (zs xs : List Int) : sumW 0 (turnedTo zs xs xs.length) = sumW (sumW 0 zs) (xs.map (fun z => 65535 - z)) := by
  rw [turnedTo, List.take_length, sumW_append]
end Go.Proofs.YtpgnnplpcalbbaaGreat
namespace Go.Proofs.YtpgnnplpcalbbaaGreat
open Go Go.RowKit Go.Shelf Go.ChangeShapes Go.WideShapes
theorem elem_sl : Elem 127 25 (.slice none 0 0) 24 := ⟨Tryz.underlying127, by kernel_rfl, rfl⟩
/-- What an argument's reading says of a slice of slices of bytes. -/
def IsParts (w : World) (a : Option Addr) (len : Nat) : Prop :=
  len ≤ maxLen ∧ (len = 0 ∨ ∃ b off, a = some ⟨b, off, none⟩ ∧ b < w.heap.size ∧ ∀ r, r < len → ∃ A L C Z, w.cell? ⟨b, off + r, none⟩ = some (.slice A L C) ∧ IsRowB w A L C Z)
theorem cell_block {w : World} {a : Addr} {v : Value} (h : w.cell? a = some v) : a.block < w.heap.size := by
  simp only [World.cell?] at h
  cases hb : w.heap[a.block]? with
  | none => rw [hb] at h; simp at h
  | some o => exact (Array.getElem?_eq_some_iff.1 hb).1
set_option maxRecDepth 100000 in
theorem open_parts {H : Type} {enc : TypeId × Value → H} {W : World} {base : Nat} {v : Value} {d : DataW H} {p : List MemPlace} (hval : Value.okWide Tryz.prog W .any base 127 v)
    (h : DataW.Trod enc Tryz.prog W 0 (fun _ => true) true 127 v d p) : ∃ a len cap, v = .slice a len cap ∧ IsParts W a len := by
  obtain ⟨a, len, cap, rfl⟩ := okWide_slice Tryz.underlying127 hval
  refine ⟨a, len, cap, rfl, ?_⟩
  obtain ⟨fuel, hf⟩ := h
  rcases Go.Deep.open_int_rows Tryz.underlying127 Tryz.underlying25 Tryz.underlying5 (by kernel_rfl) (by kernel_rfl) hf with ⟨hcs, _⟩ | ⟨x, l, c, A, L, C, Z, hcs, _, hl, hm, _, hr⟩
  · simp [Value.cells] at hcs
    exact ⟨by omega, .inl hcs.2.1⟩
  · simp [Value.cells] at hcs
    obtain ⟨rfl, rfl, rfl⟩ := hcs
    refine ⟨by omega, ?_⟩
    by_cases h0 : len = 0
    · exact .inl h0
    · right
      have hr0 := (hr 0 (by omega)).1
      obtain ⟨b, off, spot⟩ := x
      have hspot : spot = none := by simpa [Addr.add] using World.cell?_spot hr0
      subst hspot
      refine ⟨b, off, rfl, by have := cell_block hr0; simpa [Addr.add] using this, fun r hrl => ?_⟩
      obtain ⟨q1, q2, q3, q4, q5, q6, q7⟩ := hr r (by omega)
      refine ⟨A r, L r, C r, Z r, by rw [← add_plain]; exact q1, ?_⟩
      cases hA : A r with
      | none =>
        have hC := q6 hA
        exact .inl ⟨rfl, by omega, hC, List.length_eq_zero_iff.1 (by omega)⟩
      | some y =>
        exact .inr ⟨y, rfl, q2, q3, q4, fun i hi => (q7 y hA).2 i (by omega), q5⟩
/-- One more element on a row of the call's own: behind the block that the walk lays for it. -/
theorem own_one {t e : TypeId} {z : Value} {by' : Nat} (E : Elem t e z by') {w : World} {base n : Nat} {v : Value} {xs : List Value} (hown : w.ownsRow base e 1 v n xs) (hbase : base ≤ w.heap.size) (hn : n ≤ 1000000) (hby : by' ≤ 1000) (x : Value) (hx : x.oneCell' = true) (ty : TypeId) :
    ∃ v' w', (Builtin.append_ #[t, t] ty #[v, .slice (some ⟨w.heap.size, 0, none⟩) 1 1]).run Tryz.prog (w.alloc (.cells #[x] e)) = .ok v' w' ∧ w'.ownsRow base e 1 v' (n + 1) (xs ++ [x]) ∧ w.grownBy w' v.ownBlock ∧ (v'.ownBlock = v.ownBlock ∨ ∀ k, v'.ownBlock = some k → w.heap.size ≤ k) := by
  have hmul : (n + 1) * by' ≤ 1000001 * 1000 := Nat.mul_le_mul (by omega) hby
  obtain ⟨v', w', h1, h2, h3, h4⟩ := own_append E (c := 1) (m := 1) (hown.alloc (.cells #[x] e)) (some ⟨w.heap.size, 0, none⟩) [x] rfl (fun h => by cases h) (fun y hy j u hj => by
      cases hy
      match j, hj with
      | 0, hj => simp at hj; subst hj; exact (Boxed.new w _ _).cell) (fun u hu => by simp at hu; subst hu; exact hx) (by unfold maxLen; omega) (by omega) (by simp; omega) ty
  refine ⟨v', w', h1, h2, ?_, h4.imp id (fun h k hk => by have := h k hk; simp at this; omega)⟩
  have h5 := World.grownBy_alloc w (.cells #[x] e) v.ownBlock
  exact ⟨h3.os.trans h5.os, h3.tape.trans h5.tape, h3.output.trans h5.output, Nat.le_trans h5.size h3.size, fun k hk hne => (h3.block k (Nat.lt_of_lt_of_le hk h5.size) hne).trans (h5.block k hk hne)⟩
/-- The slices us hold the bytes ps, each at most 3000 of them. -/
structure Held (w : World) (us : List Value) (ps : List (List Int)) : Prop where
  len : us.length = ps.length
  each : ∀ (j : Nat) (u : Value), us[j]? = some u → BytesAt w.heap.size w u (ps[j]?.getD []) ∧ (ps[j]?.getD []).length ≤ 3000
theorem Held.nil (w : World) : Held w [] [] := ⟨rfl, fun j u h => by simp at h⟩
theorem Held.snoc {w : World} {us : List Value} {ps : List (List Int)} (h : Held w us ps) {u : Value} {zs : List Int} (hu : BytesAt w.heap.size w u zs) (hz : zs.length ≤ 3000) : Held w (us ++ [u]) (ps ++ [zs]) := by
  refine ⟨by simp [h.len], fun j v hj => ?_⟩
  have hl := h.len
  by_cases hlt : j < us.length
  · rw [List.getElem?_append_left hlt] at hj
    rw [List.getElem?_append_left (by omega)]
    exact h.each j v hj
  · have hlj := (List.getElem?_eq_some_iff.1 hj).1
    simp at hlj
    have e : j = us.length := by omega
    subst e
    rw [List.getElem?_append_right (Nat.le_refl _)] at hj
    rw [List.getElem?_append_right (by omega), hl, Nat.sub_self]
    simp at hj
    subst hj
    exact ⟨hu, hz⟩
theorem Held.later {w W : World} {us : List Value} {ps : List (List Int)} (h : Held w us ps) (hb : Below w.heap.size w W) : Held W us ps :=
  ⟨h.len, fun j u hj => ⟨(h.each j u hj).1.later hb, (h.each j u hj).2⟩⟩
/-- A row of one's own that holds such slices holds the parts. -/
theorem Held.parts {w : World} {base n : Nat} {v : Value} {us : List Value} {ps : List (List Int)} (h : Held w us ps) (hown : w.ownsRow base 25 1 v n us) (hn : n ≤ 1000) : PartsAt w.heap.size w v ps := by
  obtain ⟨a, cap, rfl, hl, hz⟩ := own_form hown
  have hl2 := h.len
  refine ⟨by omega, a, cap, by rw [← hl2, hl], ?_⟩
  rcases hz with hz | ⟨g, rfl, _, hg, hc⟩
  · exact .inl (by omega)
  · refine .inr ⟨g, 0, rfl, hg, fun j hj => ?_⟩
    have hj' : us[j]? = some us[j] := by simp
    exact ⟨us[j], by rw [Nat.zero_add]; exact hc j _ hj', (h.each j _ hj').1⟩
end Go.Proofs.YtpgnnplpcalbbaaGreat
