/-
  The contracts of the document's answer for package sum: Update, Neutral.
-/
import Derived.Test.YtnlaomjhnndblaaRef
namespace Go.Proofs.Ytnlaomjhnndblaa
open Go Go.RowKit Go.Shelf

/-- A contract, kept out of the walk's sight. -/
def HidCalls (f : FuncId) (args : Array Value) (w : World) (R : Ending → World → Prop) : Prop := Calls Try.prog f args w R
theorem calls_hide {f : FuncId} {args : Array Value} {w : World} {R : Ending → World → Prop} (h : Calls Try.prog f args w R) : HidCalls f args w R := h
theorem calls_show {f : FuncId} {args : Array Value} {w : World} {R : Ending → World → Prop} (h : HidCalls f args w R) : Calls Try.prog f args w R := h

/-- A row of one's own lies on while nothing that lay has turned. -/
theorem own_below {w w' : World} {base n : Nat} {e : TypeId} {v : Value} {xs : List Value} (h : w.ownsRow base e 1 v n xs) (hb : Below w.heap.size w w') : w'.ownsRow base e 1 v n xs :=
  h.kept (row := none) ⟨hb.os, hb.tape, hb.output, hb.size, fun k hk _ => hb.block k hk⟩ (by cases hv : v.ownBlock <;> simp)

theorem own_lit (w : World) (x : Int) : (w.alloc (.cells #[.int .i64 x] 3)).ownsRow w.heap.size 3 1 (.slice (some ⟨w.heap.size, 0, none⟩) 1 1) 1 (intsV [x]) :=
  ⟨rfl, .inr ⟨w.heap.size, 1, _, rfl, Nat.le_refl _, World.alloc_heap_new w _, Nat.le_refl _, by decide, rfl, rfl⟩⟩

/-- The words of a row, turned, behind the words ys, when k of them have come. -/
def turnedTo (ys xs : List Int) (k : Nat) : List Int := ys ++ (xs.take k).map (fun z => 65535 - z)
theorem turnedTo_succ (ys xs : List Int) (k : Nat) (x : Int) (h : xs[k]? = some x) : intsV (turnedTo ys xs (k + 1)) = intsV (turnedTo ys xs k) ++ [.int .i64 (65535 - x)] := by
  obtain ⟨hk, rfl⟩ := List.getElem?_eq_some_iff.1 h
  rw [turnedTo, turnedTo, List.take_succ_eq_append_getElem hk, List.map_append, ← List.append_assoc, intsV, List.map_append]
  rfl
theorem turnedTo_length (ys xs : List Int) (k : Nat) (h : k ≤ xs.length) : (turnedTo ys xs k).length = ys.length + k := by
  simp [turnedTo]; omega

/-- One row of the call's own behind another. -/
theorem own_join {w : World} {base base' n m : Nat} {v u : Value} {xs ys : List Int} (hv : w.ownsRow base 3 1 v n (intsV xs)) (hu : w.ownsRow base' 3 1 u m (intsV ys)) (hbase : base ≤ w.heap.size) (hn : n + m ≤ 1000000) (ty : TypeId) :
    ∃ v' w', (Builtin.append_ #[109, 109] ty #[v, u]).run Try.prog w = .ok v' w' ∧ w'.ownsRow base 3 1 v' (n + m) (intsV (xs ++ ys)) ∧ w.grownBy w' v.ownBlock := by
  obtain ⟨a, cap, rfl, hl, hz⟩ := own_form hu
  obtain ⟨v', w', h1, h2, h3, _⟩ := own_append elem_int (c := cap) (m := m) hv a (intsV ys) hl (fun e => by
      rcases hz with hz | ⟨g, hg, _⟩
      · exact hz
      · rw [e] at hg; cases hg) (fun x hx j y hj => by
      rcases hz with hz | ⟨g, hg, _, _, hc⟩
      · have := (List.getElem?_eq_some_iff.1 hj).1; omega
      · rw [hx] at hg
        cases hg
        rw [Go.WideShapes.add_plain, Nat.zero_add]
        exact hc j y hj) (intsV_one ys) (by unfold maxLen; omega) (by omega) hbase ty
  refine ⟨v', w', h1, ?_, h3⟩
  rw [intsV, List.map_append]
  exact h2

theorem turnedTo_all (x : Int) (hx : 0 ≤ x ∧ x ≤ 65535) (xs ys : List Int) : sumW 0 (turnedTo [x] xs xs.length ++ ys) = sumW (sumW x (xs.map (fun z => 65535 - z))) ys := by
  have e : addW 0 x = x := by unfold addW; rw [if_pos (by omega)]; omega
  rw [turnedTo, List.take_length, sumW_append, sumW_append]
  have e2 : sumW 0 [x] = x := e
  rw [e2]
theorem turnedTo_words (zs xs ys : List Int) (k : Nat) (hz : Words zs) (h : Words xs) (hy : Words ys) : Words (turnedTo zs xs k ++ ys) := by
  refine Words.append (Words.append hz (turn_words ?_)) hy
  exact fun z hz => h z (List.mem_of_mem_take hz)

set_option maxHeartbeats 2000000 in
theorem update_ref (was : Int) (hwas : 0 ≤ was ∧ was ≤ 65535) (a a' : Option Addr) (n cap cap' : Nat) (zs ys : List Int) (w : World) (hz : BytesAt w.heap.size w (.slice a n cap) zs) (hy : BytesAt w.heap.size w (.slice a' n cap') ys) (h2 : n % 2 = 0) (hs : n ≤ 3000) :
    Calls Try.prog 63 #[.int .u16 was, .slice a n cap, .slice a' n cap'] w fun e w' =>
      e = .returned (.tuple #[.int .u16 (65535 - sumW (sumW (65535 - was) ((wordsL zs).map (fun z => 65535 - z))) (wordsL ys)), .int .i64 0]) ∧ Below w.heap.size w w' := by
  have hn1 : zs.length = n := by obtain ⟨_, _, e, _⟩ := hz.val; cases e; rfl
  have hn2 : ys.length = n := by obtain ⟨_, _, e, _⟩ := hy.val; cases e; rfl
  have hw1 := wordsL_words hz.fit
  have hw2 := wordsL_words hy.fit
  have hl1 : (wordsL zs).length ≤ 3000 := by rw [wordsL_length]; omega
  have hl2 : (wordsL ys).length ≤ 3000 := by rw [wordsL_length]; omega
  have hq1 : zs.length ≤ 3000 := by omega
  have hq2 : ys.length ≤ 3000 := by omega
  clear hn1 hn2
  go_enter Try.func63, Try.ntmps63
  go_wp2_with fail
  refine (even_yes a a' n cap cap' _ (by omega) h2).mono ?_
  rintro e w' ⟨rfl, rfl⟩
  have hB0 : Below w'.heap.size w' (w'.alloc (.cells #[.int .i64 (65535 - was)] 3)) := (Below.refl _ _).alloc (Nat.le_refl _) _
  go_wp2_with fail
  refine (words_ref a n cap zs _ (hz.later hB0) (by omega)).mono ?_
  rintro e w2 ⟨va, rfl, hva, hB1⟩
  have hB2 := hB0.trans (hB1.mono hB0.size)
  have hvl := own_below (own_lit w' (65535 - was)) hB1
  obtain ⟨aa, capa, rfl, _, _⟩ := own_form hva
  have hsep : ∀ g, (Value.slice aa (wordsL zs).length capa).ownBlock = some g → (Value.slice (some ⟨w'.heap.size, 0, none⟩) 1 1).ownBlock ≠ some g := by
    intro g hg e
    have := (hva.lt g hg).1
    simp [Value.ownBlock] at e
    simp at this
    omega
  have hrow : w2.ownsRow w'.heap.size 3 1 (.slice (some ⟨w'.heap.size, 0, none⟩) 1 1) (1 + 0) (intsV (turnedTo [65535 - was] (wordsL zs) 0)) := hvl
  generalize hbse : (w'.alloc (.cells #[.int .i64 (65535 - was)] 3)).heap.size = B1 at *
  clear hbse hB0 hB1 hvl
  go_wp2_with fail
  go_loopw [8, 10] (fun v i wr => ∃ k : Nat, k ≤ (wordsL zs).length ∧ i = .int .i64 k ∧ wr.ownsRow w'.heap.size 3 1 v (1 + k) (intsV (turnedTo [65535 - was] (wordsL zs) k)) ∧ wr.ownsRow B1 3 1 (.slice aa (wordsL zs).length capa) (wordsL zs).length (intsV (wordsL zs)) ∧ (∀ g, (Value.slice aa (wordsL zs).length capa).ownBlock = some g → v.ownBlock ≠ some g) ∧ Below w'.heap.size w' wr) (fun _ i _ => (wordsL zs).length - (intOf i).toNat)
  case atStart => exact ⟨0, Nat.zero_le _, rfl, hrow, hva, hsep, hB2⟩
  case round =>
    clear hrow hva hsep hB2
    obtain ⟨k, hk, rfl, hrow, hva, hsep, hB⟩ := hrel
    have hsz := hB.size
    by_cases hlt : k < (wordsL zs).length
    · obtain ⟨aa', capa', e, _, hza⟩ := own_form hva
      cases e
      rcases hza with hza | ⟨g, rfl, _, hg, hc⟩
      · omega
      have hx : (wordsL zs)[k]? = some (wordsL zs)[k] := by simp [hlt]
      have hck := hc k (.int .i64 (wordsL zs)[k]) (by rw [intsV, List.getElem?_map, hx]; rfl)
      have hr := hw1 _ (List.mem_of_getElem? hx)
      have hsn := turnedTo_succ [65535 - was] (wordsL zs) k _ hx
      clear hc hx
      generalize (wordsL zs)[k] = x at *
      obtain ⟨v', w1, hrun, hown', hgrow, hbl⟩ := own_int hrow hsz (by omega) (65535 - x) 109
      have H0 : Hid _ := hrun
      have HS : Hid _ := hsn
      have HB : Hid _ := hbl
      clear hrun hsn hbl
      go_wp2_with (at_builtin; refine wpList_append_run rfl _ _ _ _ rfl rfl rfl H0.out ?_; clear H0)
      refine ⟨⟨k + 1, by omega, by simp, ?_, hva.kept hgrow (.inr (fun e => hsep g rfl e.symm)), ?_, hB.grown hgrow hsz (fun j hj => (hrow.lt j hj).1)⟩, by simp [intOf]; omega⟩
      · rw [HS.out]; exact hown'
      · intro g' hg'
        rcases HB.out with e | e
        · rw [e]; exact hsep g' hg'
        · intro e'
          have := e g' e'
          simp [Value.ownBlock] at hg'
          omega
    · obtain rfl : k = (wordsL zs).length := by omega
      go_wp2_with fail
      refine (words_ref a' n cap' ys _ (hy.later hB) (by omega)).mono ?_
      rintro e w3 ⟨vb, rfl, hvb, hB3⟩
      have hrow3 := own_below hrow hB3
      have hB4 := hB.trans (hB3.mono hB.size)
      have hB3s := hB3.size
      obtain ⟨v', w4, hrun, hown', hgrow⟩ := own_join hrow3 hvb (by omega) (by omega) 109
      have hB5 := hB4.grown hgrow (by omega) (fun j hj => (hrow3.lt j hj).1)
      have hww := turnedTo_words [65535 - was] (wordsL zs) (wordsL ys) (wordsL zs).length (fun z hz => by simp at hz; omega) hw1 hw2
      have hlen : (turnedTo [65535 - was] (wordsL zs) (wordsL zs).length ++ wordsL ys).length = 1 + (wordsL zs).length + (wordsL ys).length := by
        rw [List.length_append, turnedTo_length _ _ _ (Nat.le_refl _)]; rfl
      have hr1 := sumW_range _ (65535 - was) (by omega) (turn_words hw1)
      have hr2 := sumW_range _ _ hr1 hw2
      have hadd := added_calls w'.heap.size v' _ hww w4 (by omega) (by rw [hlen]; exact hown')
      rw [turnedTo_all _ (by omega)] at hadd
      clear hww hlen hr1 hown' hgrow hrow3 hvb hrow hva hsep
      generalize ht : sumW (sumW (65535 - was) ((wordsL zs).map (fun z => 65535 - z))) (wordsL ys) = t at *
      have HT : Hid _ := ht
      clear ht
      have HA := calls_hide hadd
      have H0 : Hid _ := hrun
      clear hadd hrun
      go_wp2_with (at_builtin; refine wpList_append_run rfl _ _ _ _ rfl rfl rfl H0.out ?_; clear H0)
      refine (calls_show HA).mono ?_
      rintro e w5 ⟨rfl, rfl⟩
      go_wp2
      go_ret2
      exact ⟨by rw [HT.out]; rfl, hB5⟩

set_option maxHeartbeats 400000 in
theorem update_ref_no (was : Int) (a a' : Option Addr) (n n' cap cap' : Nat) (w : World) (hn : n ≤ 140737488351232) (hn' : n' ≤ 140737488351232) (h : ¬ (n = n' ∧ n % 2 = 0)) :
    Calls Try.prog 63 #[.int .u16 was, .slice a n cap, .slice a' n' cap'] w fun e w' => e = .returned (.tuple #[.int .u16 0, .int .i64 10]) ∧ w' = w := by
  have H : Hid (¬ (n = n' ∧ n % 2 = 0)) := h
  clear h
  go_enter Try.func63, Try.ntmps63
  go_wp2_with fail
  refine (even_no a a' n n' cap cap' _ hn hn' H.out).mono ?_
  rintro e w' ⟨rfl, rfl⟩
  go_wp2
  go_ret2
  exact ⟨rfl, rfl⟩

theorem turnedTo_sum (zs xs : List Int) : sumW 0 (turnedTo zs xs xs.length) = sumW (sumW 0 zs) (xs.map (fun z => 65535 - z)) := by
  rw [turnedTo, List.take_length, sumW_append]

end Go.Proofs.Ytnlaomjhnndblaa
