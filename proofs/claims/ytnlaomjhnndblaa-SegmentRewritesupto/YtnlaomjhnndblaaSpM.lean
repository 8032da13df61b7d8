/-
  Ports of both sides.
  Update of the document for long rows; an append to an own row of bytes, for long rows.
  Rewrite of the document.
  The statement SegmentRewrites for every argument of bulk at most 1048576.
-/
import Derived.Test.YtnlaomjhnndblaaSoM
import Derived.Test.YtnlaomjhnndblaaSi4
import Derived.Test.YtnlaomjhnndblaaRows
namespace Go.Proofs.Ytnlaomjhnndblaa
open Go Go.RowKit Go.Shelf
set_option linter.unusedVariables false
set_option linter.unusedSimpArgs false

def poIs (p : Int) (zs : List Int) : Bool := kIs p && decide (4 ≤ zs.length)
def poS (p : Int) (zs : List Int) : Int := if poIs p zs = true then wd2 zs 0 else 0
def poD (p : Int) (zs : List Int) : Int := if poIs p zs = true then wd2 zs 2 else 0
set_option maxHeartbeats 2000000 in
set_option maxRecDepth 100000 in
theorem RPorts_calls (p : Int) (v : Value) (zs : List Int) (w : World) (h : BytesAt w.heap.size w v zs) :
    Calls Try.prog 33 #[.int .u8 p, v] w fun e w' => e = .returned (.tuple #[.int .u16 (poS p zs), .int .u16 (poD p zs), .bool (poIs p zs)]) ∧ w' = w := by
  by_cases hI : poIs p zs = true
  · have e1 : poS p zs = wd2 zs 0 := if_pos hI
    have e2 : poD p zs = wd2 zs 2 := if_pos hI
    rw [e1, e2, hI]
    unfold poIs at hI
    simp only [Bool.and_eq_true, decide_eq_true_eq] at hI
    obtain ⟨hk, h4⟩ := hI
    have c1 : Hid _ := get_calls v zs 0 2 w h (by decide) (by omega)
    have c2 : Hid _ := get_calls v zs 2 2 w h (by decide) (by omega)
    rw [getB_two] at c1 c2
    have r1 := wd2_range h.fit 0
    have r2 := wd2_range h.fit 2
    obtain ⟨a, k, rfl, _⟩ := h.val
    have q4 : ¬ ((zs.length : Int) < 4) := by omega
    generalize wd2 zs 0 = x at *
    generalize wd2 zs 2 = y at *
    have m1 : x % 65536 = x := by omega
    have m2 : y % 65536 = y := by omega
    have hp : p = 6 ∨ p = 17 := by simpa [kIs] using hk
    clear h e1 e2 hk
    rcases hp with rfl | rfl
    · go_enter Try.func33, Try.ntmps33
      go_wp2_with fail
      refine Calls.mono c1.out ?_
      rintro _ _ ⟨rfl, rfl⟩
      go_wp2_with fail
      refine Calls.mono c2.out ?_
      rintro _ _ ⟨rfl, rfl⟩
      go_wp2
      go_ret3
      exact ⟨rfl, rfl⟩
    · go_enter Try.func33, Try.ntmps33
      go_wp2_with fail
      refine Calls.mono c1.out ?_
      rintro _ _ ⟨rfl, rfl⟩
      go_wp2_with fail
      refine Calls.mono c2.out ?_
      rintro _ _ ⟨rfl, rfl⟩
      go_wp2
      go_ret3
      exact ⟨rfl, rfl⟩
  · have hI' : poIs p zs = false := by simpa using hI
    have e1 : poS p zs = 0 := if_neg hI
    have e2 : poD p zs = 0 := if_neg hI
    rw [e1, e2, hI']
    obtain ⟨a, k, rfl, _⟩ := h.val
    have hc : (p = 6 ∧ zs.length < 4) ∨ (p = 17 ∧ zs.length < 4) ∨ (p ≠ 6 ∧ p ≠ 17) := by
      by_cases h6 : p = 6
      · subst h6
        refine .inl ⟨rfl, ?_⟩
        simpa [poIs, kIs] using hI'
      · by_cases h17 : p = 17
        · subst h17
          refine .inr (.inl ⟨rfl, ?_⟩)
          simpa [poIs, kIs] using hI'
        · exact .inr (.inr ⟨h6, h17⟩)
    clear h hI hI' e1 e2
    rcases hc with ⟨rfl, hl⟩ | ⟨rfl, hl⟩ | ⟨h6, h17⟩
    · have q4 : (zs.length : Int) < 4 := by omega
      go_enter Try.func33, Try.ntmps33
      go_wp2
      go_ret3
      exact ⟨rfl, rfl⟩
    · have q4 : (zs.length : Int) < 4 := by omega
      go_enter Try.func33, Try.ntmps33
      go_wp2
      go_ret3
      exact ⟨rfl, rfl⟩
    · have q6 : (p != 6) = true := by simpa using h6
      have q17 : (p != 17) = true := by simpa using h17
      go_enter Try.func33, Try.ntmps33
      go_wp2
      go_ret3
      exact ⟨rfl, rfl⟩




theorem ex_rest2 {o : Oper} {a : Act} {W : World} (k : Nat) {b off len cap : Nat} (hop : o.op = Op.slice 29 (.tmp k) (some (.const (.int .i64 2))) none none) (hk : a.eval (.tmp k) = .slice (some ⟨b, off, none⟩) len cap) (h8 : 4 ≤ len) (hc : len ≤ cap) :
    (execOp a.eval o).run Try.prog W = .ok (.value (.slice (some ⟨b, off + 2, none⟩) (len - 2) (cap - 2))) W := by
  have hcst : a.eval (.const (.int .i64 2)) = .int .i64 2 := rfl
  have h1 : (2 : Int) ≤ (len : Int) := by omega
  have h2 : ¬ cap = 2 := by omega
  generalize a.eval = ev at *
  simp [execOp, hop, hk, hcst, go_sem, h1, h2]
set_option maxHeartbeats 2000000 in
set_option maxRecDepth 100000 in
theorem Ports_calls (p : Int) (v : Value) (zs : List Int) (w : World) (h : RowC w v zs) :
    Calls Try.prog 32 #[.int .u8 p, v] w fun e w' => e = .returned (.tuple #[.int .u16 (poS p zs), .int .u16 (poD p zs), .bool (poIs p zs)]) ∧ Below w.heap.size w w' := by
  have c0 : Hid _ := checkAt_calls p w
  by_cases hI : poIs p zs = true
  · have e1 : poS p zs = wd2 zs 0 := if_pos hI
    have e2 : poD p zs = wd2 zs 2 := if_pos hI
    rw [e1, e2, hI]
    unfold poIs at hI
    simp only [Bool.and_eq_true, decide_eq_true_eq] at hI
    obtain ⟨hk, h4⟩ := hI
    rw [hk] at c0
    obtain ⟨b, off, cap, hS⟩ := h.rowS (by omega)
    have hv := hS.val
    subst hv
    have q4 : ¬ ((zs.length : Int) < 4) := by omega
    have hroom := hS.room
    have k0 := hS.cell 0 (by omega)
    have k1 := hS.cell 1 (by omega)
    have k2 := hS.cell 2 (by omega)
    have k3 := hS.cell 3 (by omega)
    have W1 : Hid (Calls Try.prog 54 #[.slice (some ⟨b, off, none⟩) zs.length cap] w.drew fun e w' => ∃ v, e = .returned v ∧ (v = .int .u16 (wd2 zs 0) ∧ w' = w.drew.drew)) := (wordOf_calls b off zs.length cap (gz zs 0) (gz zs 1) w.drew (by omega) k0 k1 (hS.fit.gz 0) (hS.fit.gz 1)).mono (fun e w' k => ⟨_, k.1, rfl, k.2⟩)
    have W2 : Hid (Calls Try.prog 54 #[.slice (some ⟨b, off + 2, none⟩) (zs.length - 2) (cap - 2)] w.drew.drew fun e w' => ∃ v, e = .returned v ∧ (v = .int .u16 (wd2 zs 2) ∧ w' = w.drew.drew.drew)) := (wordOf_calls b (off + 2) (zs.length - 2) (cap - 2) (gz zs 2) (gz zs 3) w.drew.drew (by omega) k2 k3 (hS.fit.gz 2) (hS.fit.gz 3)).mono (fun e w' k => ⟨_, k.1, rfl, k.2⟩)
    obtain ⟨x, hx⟩ : ∃ x, wd2 zs 0 = x := ⟨_, rfl⟩
    obtain ⟨y, hy⟩ : ∃ y, wd2 zs 2 = y := ⟨_, rfl⟩
    rw [hx] at W1 ⊢
    rw [hy] at W2 ⊢
    have HF : Hid (Below w.heap.size w w.drew.drew.drew) := (Below.refl _ w).drew.drew.drew
    clear h hS k0 k1 k2 k3 e1 e2 hx hy hk
    go_enter Try.func32, Try.ntmps32
    go_wp2_with fail
    refine Calls.mono c0.out ?_
    rintro _ _ ⟨rfl, rfl⟩
    go_wp2_with fail
    refine wp_region_held (S := fun _ => True) (by kernel_rfl) ?_
    show wpAnyH _ _ _ _ _ 8 (Array.replicate 8 false) _ _
    refine take_one (i := 0) (d := some 21) (v := .slice (some ⟨b, off, none⟩) zs.length cap) rfl rfl rfl (by kernel_rfl) (by kernel_rfl) (by kernel_rfl) (fun _ _ d _ _ h => by cases d <;> exact h) (fun W hS => ex_move (.tmp 1) rfl rfl) trivial ?_
    simp only [Act.put, List.setIfInBounds_toArray, List.set_cons_zero, List.set_cons_succ]
    refine take_one (i := 2) (d := some 23) (v := .slice (some ⟨b, off, none⟩) zs.length cap) rfl rfl rfl (by kernel_rfl) (by kernel_rfl) (by kernel_rfl) (fun _ _ d _ _ h => by cases d <;> exact h) (fun W hS => ex_move (.tmp 1) rfl rfl) trivial ?_
    simp only [Act.put, List.setIfInBounds_toArray, List.set_cons_zero, List.set_cons_succ]
    refine take_one (i := 3) (d := some 24) (v := .slice (some ⟨b, off + 2, none⟩) (zs.length - 2) (cap - 2)) rfl rfl rfl (by kernel_rfl) (by kernel_rfl) (by kernel_rfl) (fun _ _ d _ _ h => by cases d <;> exact h) (fun W hS => ex_rest2 23 rfl rfl h4 hroom) trivial ?_
    simp only [Act.put, List.setIfInBounds_toArray, List.set_cons_zero, List.set_cons_succ]
    refine all_one (i := 1) (by kernel_rfl) rfl rfl ?_
    refine wp_call (d := some 22) 54 _ rfl (by kernel_rfl) W1.out ?_
    rintro  _ _ ⟨rfl, rfl⟩
    refine ⟨trivial, ?_⟩
    simp only [Act.put, List.setIfInBounds_toArray, List.set_cons_zero, List.set_cons_succ]
    refine all_one (i := 4) (by kernel_rfl) rfl rfl ?_
    refine wp_call (d := some 25) 54 _ rfl (by kernel_rfl) W2.out ?_
    rintro  _ _ ⟨rfl, rfl⟩
    refine ⟨trivial, ?_⟩
    simp only [Act.put, List.setIfInBounds_toArray, List.set_cons_zero, List.set_cons_succ]
    refine take_one (i := 5) (d := some 4) (v := .int .u16 x) rfl rfl rfl (by kernel_rfl) (by kernel_rfl) (by kernel_rfl) (fun _ _ d _ _ h => by cases d <;> exact h) (fun W hS => ex_assign (.tmp 22) rfl rfl) trivial ?_
    simp only [Act.put, List.setIfInBounds_toArray, List.set_cons_zero, List.set_cons_succ]
    refine take_one (i := 6) (d := some 5) (v := .int .u16 y) rfl rfl rfl (by kernel_rfl) (by kernel_rfl) (by kernel_rfl) (fun _ _ d _ _ h => by cases d <;> exact h) (fun W hS => ex_assign (.tmp 25) rfl rfl) trivial ?_
    simp only [Act.put, List.setIfInBounds_toArray, List.set_cons_zero, List.set_cons_succ]
    refine take_one (i := 7) (d := some 6) (v := .bool true) rfl rfl rfl (by kernel_rfl) (by kernel_rfl) (by kernel_rfl) (fun _ _ d _ _ h => by cases d <;> exact h) (fun W hS => ex_assign (.const (.bool true)) rfl rfl) trivial ?_
    simp only [Act.put, List.setIfInBounds_toArray, List.set_cons_zero, List.set_cons_succ]
    refine wpAnyH_done (by kernel_rfl) ?_ _
    go_wp2
    go_ret3
    exact ⟨rfl, HF.out⟩
  · have hI' : poIs p zs = false := by simpa using hI
    have e1 : poS p zs = 0 := if_neg hI
    have e2 : poD p zs = 0 := if_neg hI
    rw [e1, e2, hI']
    obtain ⟨a, k, rfl, _⟩ := h.val
    have HF : Hid (Below w.heap.size w w) := Below.refl _ w
    clear h hI e1 e2
    cases hk : kIs p
    · rw [hk] at c0
      clear hI' hk
      go_enter Try.func32, Try.ntmps32
      go_wp2_with fail
      refine Calls.mono c0.out ?_
      rintro _ _ ⟨rfl, rfl⟩
      go_wp2
      go_ret3
      exact ⟨rfl, HF.out⟩
    · rw [hk] at c0
      have hl : zs.length < 4 := by simpa [poIs, hk] using hI'
      have q4 : (zs.length : Int) < 4 := by omega
      clear hI' hk
      go_enter Try.func32, Try.ntmps32
      go_wp2_with fail
      refine Calls.mono c0.out ?_
      rintro _ _ ⟨rfl, rfl⟩
      go_wp2
      go_ret3
      exact ⟨rfl, HF.out⟩

end Go.Proofs.Ytnlaomjhnndblaa

namespace Go.Proofs.Ytnlaomjhnndblaa
open Go Go.RowKit Go.Shelf
set_option linter.unusedVariables false
set_option linter.unusedSimpArgs false

set_option maxHeartbeats 2000000 in
theorem update_wide (was : Int) (hwas : 0 ≤ was ∧ was ≤ 65535) (a a' : Option Addr) (n cap cap' : Nat) (zs ys : List Int) (w : World) (hz : BytesAt w.heap.size w (.slice a n cap) zs) (hy : BytesAt w.heap.size w (.slice a' n cap') ys) (h2 : n % 2 = 0) (hs : n ≤ 524288) :
    Calls Try.prog 63 #[.int .u16 was, .slice a n cap, .slice a' n cap'] w fun e w' =>
      e = .returned (.tuple #[.int .u16 (65535 - sumW (sumW (65535 - was) ((wordsL zs).map (fun z => 65535 - z))) (wordsL ys)), .int .i64 0]) ∧ Below w.heap.size w w' := by
  have hn1 : zs.length = n := by obtain ⟨_, _, e, _⟩ := hz.val; cases e; rfl
  have hn2 : ys.length = n := by obtain ⟨_, _, e, _⟩ := hy.val; cases e; rfl
  have hw1 := wordsL_words hz.fit
  have hw2 := wordsL_words hy.fit
  have hl1 : (wordsL zs).length ≤ 262145 := by rw [wordsL_length]; omega
  have hl2 : (wordsL ys).length ≤ 262145 := by rw [wordsL_length]; omega
  have hq1 : zs.length ≤ 524288 := by omega
  have hq2 : ys.length ≤ 524288 := by omega
  clear hn1 hn2
  go_enter Try.func63, Try.ntmps63
  go_wp2_with fail
  refine (even_yes a a' n cap cap' _ (by omega) h2).mono ?_
  rintro e w' ⟨rfl, rfl⟩
  have hB0 : Below w'.heap.size w' (w'.alloc (.cells #[.int .i64 (65535 - was)] 3)) := (Below.refl _ _).alloc (Nat.le_refl _) _
  go_wp2_with fail
  refine (words_ref a n cap zs _ (hz.later hB0) (by omega)).mono ?_
  rintro e w2 ⟨va, rfl, hva, hB1⟩
  have hB2 := hB0.trans (hB1.mono hB0.size)
  have hvl := own_below (own_lit w' (65535 - was)) hB1
  obtain ⟨aa, capa, rfl, _, _⟩ := own_form hva
  have hsep : ∀ g, (Value.slice aa (wordsL zs).length capa).ownBlock = some g → (Value.slice (some ⟨w'.heap.size, 0, none⟩) 1 1).ownBlock ≠ some g := by
    intro g hg e
    have := (hva.lt g hg).1
    simp [Value.ownBlock] at e
    simp at this
    omega
  have hrow : w2.ownsRow w'.heap.size 3 1 (.slice (some ⟨w'.heap.size, 0, none⟩) 1 1) (1 + 0) (intsV (turnedTo [65535 - was] (wordsL zs) 0)) := hvl
  generalize hbse : (w'.alloc (.cells #[.int .i64 (65535 - was)] 3)).heap.size = B1 at *
  clear hbse hB0 hB1 hvl
  go_wp2_with fail
  go_loopw [8, 10] (fun v i wr => ∃ k : Nat, k ≤ (wordsL zs).length ∧ i = .int .i64 k ∧ wr.ownsRow w'.heap.size 3 1 v (1 + k) (intsV (turnedTo [65535 - was] (wordsL zs) k)) ∧ wr.ownsRow B1 3 1 (.slice aa (wordsL zs).length capa) (wordsL zs).length (intsV (wordsL zs)) ∧ (∀ g, (Value.slice aa (wordsL zs).length capa).ownBlock = some g → v.ownBlock ≠ some g) ∧ Below w'.heap.size w' wr) (fun _ i _ => (wordsL zs).length - (intOf i).toNat)
  case atStart => exact ⟨0, Nat.zero_le _, rfl, hrow, hva, hsep, hB2⟩
  case round =>
    clear hrow hva hsep hB2
    obtain ⟨k, hk, rfl, hrow, hva, hsep, hB⟩ := hrel
    have hsz := hB.size
    by_cases hlt : k < (wordsL zs).length
    · obtain ⟨aa', capa', e, _, hza⟩ := own_form hva
      cases e
      rcases hza with hza | ⟨g, rfl, _, hg, hc⟩
      · omega
      have hx : (wordsL zs)[k]? = some (wordsL zs)[k] := by simp [hlt]
      have hck := hc k (.int .i64 (wordsL zs)[k]) (by rw [intsV, List.getElem?_map, hx]; rfl)
      have hr := hw1 _ (List.mem_of_getElem? hx)
      have hsn := turnedTo_succ [65535 - was] (wordsL zs) k _ hx
      clear hc hx
      generalize (wordsL zs)[k] = x at *
      obtain ⟨v', w1, hrun, hown', hgrow, hbl⟩ := own_int hrow hsz (by omega) (65535 - x) 109
      have H0 : Hid _ := hrun
      have HS : Hid _ := hsn
      have HB : Hid _ := hbl
      clear hrun hsn hbl
      go_wp2_with (at_builtin; refine wpList_append_run rfl _ _ _ _ rfl rfl rfl H0.out ?_; clear H0)
      refine ⟨⟨k + 1, by omega, by simp, ?_, hva.kept hgrow (.inr (fun e => hsep g rfl e.symm)), ?_, hB.grown hgrow hsz (fun j hj => (hrow.lt j hj).1)⟩, by simp [intOf]; omega⟩
      · rw [HS.out]; exact hown'
      · intro g' hg'
        rcases HB.out with e | e
        · rw [e]; exact hsep g' hg'
        · intro e'
          have := e g' e'
          simp [Value.ownBlock] at hg'
          omega
    · obtain rfl : k = (wordsL zs).length := by omega
      go_wp2_with fail
      refine (words_ref a' n cap' ys _ (hy.later hB) (by omega)).mono ?_
      rintro e w3 ⟨vb, rfl, hvb, hB3⟩
      have hrow3 := own_below hrow hB3
      have hB4 := hB.trans (hB3.mono hB.size)
      have hB3s := hB3.size
      obtain ⟨v', w4, hrun, hown', hgrow⟩ := own_join hrow3 hvb (by omega) (by omega) 109
      have hB5 := hB4.grown hgrow (by omega) (fun j hj => (hrow3.lt j hj).1)
      have hww := turnedTo_words [65535 - was] (wordsL zs) (wordsL ys) (wordsL zs).length (fun z hz => by simp at hz; omega) hw1 hw2
      have hlen : (turnedTo [65535 - was] (wordsL zs) (wordsL zs).length ++ wordsL ys).length = 1 + (wordsL zs).length + (wordsL ys).length := by
        rw [List.length_append, turnedTo_length _ _ _ (Nat.le_refl _)]; rfl
      have hr1 := sumW_range _ (65535 - was) (by omega) (turn_words hw1)
      have hr2 := sumW_range _ _ hr1 hw2
      have hadd := added_calls w'.heap.size v' _ hww w4 (by omega) (by rw [hlen]; exact hown')
      rw [turnedTo_all _ (by omega)] at hadd
      clear hww hlen hr1 hown' hgrow hrow3 hvb hrow hva hsep
      generalize ht : sumW (sumW (65535 - was) ((wordsL zs).map (fun z => 65535 - z))) (wordsL ys) = t at *
      have HT : Hid _ := ht
      clear ht
      have HA := calls_hide hadd
      have H0 : Hid _ := hrun
      clear hadd hrun
      go_wp2_with (at_builtin; refine wpList_append_run rfl _ _ _ _ rfl rfl rfl H0.out ?_; clear H0)
      refine (calls_show HA).mono ?_
      rintro e w5 ⟨rfl, rfl⟩
      go_wp2
      go_ret2
      exact ⟨by rw [HT.out]; rfl, hB5⟩


theorem own_bytes_wide {w w0 : World} {base n : Nat} {v : Value} {xs : List Value} (hown : w.ownsRow base 5 1 v n xs) (hbase : base ≤ w.heap.size) {a : Option Addr} {m c : Nat} {zs : List Int} (hb : BytesAt w0.heap.size w (.slice a m c) zs) (hn : n + m ≤ 2000000) (ty : TypeId) :
    ∃ v' w', (Builtin.append_ #[29, 29] ty #[v, .slice a m c]).run Try.prog w = .ok v' w' ∧ w'.ownsRow base 5 1 v' (n + m) (xs ++ bytesV zs) ∧ w.grownBy w' v.ownBlock := by
  obtain ⟨_, _, a', c', e, hz⟩ := hb
  cases e
  have hnone : a = none → zs.length = 0 := fun e => by
    rcases hz with hz | ⟨b, off, hz, _⟩
    · exact hz
    · rw [e] at hz; cases hz
  obtain ⟨v', w', h1, h2, h3, _⟩ := own_append elem_u8 (c := c) hown a (bytesV zs) (bytesV_length zs) hnone (fun x hx j u hj => by
      rcases hz with hz | ⟨b, off, hz, _, hc⟩
      · have := (List.getElem?_eq_some_iff.1 hj).1; rw [bytesV_length] at this; omega
      · rw [hx] at hz
        cases hz
        have hjl := (List.getElem?_eq_some_iff.1 hj).1
        rw [bytesV_length] at hjl
        rw [Go.WideShapes.add_plain, hc j hjl]
        rw [bytesV, List.getElem?_map] at hj
        obtain ⟨z, hz, rfl⟩ := Option.map_eq_some_iff.1 hj
        rw [hz]; rfl) (bytesV_one zs) (by unfold maxLen; omega) (by omega) hbase ty
  exact ⟨v', w', h1, h2, h3⟩

theorem OB.wide {base : Nat} {w wx : World} {v u : Value} {zs ys : List Int} (h : OB base w wx v zs) (hs : base ≤ wx.heap.size) (hb : BytesAt wx.heap.size wx u ys) (hl : zs.length + ys.length ≤ 2000000) (ty : TypeId) :
    ∃ v' wy, (Builtin.append_ #[29, 29] ty #[v, u]).run Try.prog wx = .ok v' wy ∧ OB base w wy v' (zs ++ ys) ∧ base ≤ wy.heap.size := by
  obtain ⟨a, cap, rfl, _⟩ := hb.val
  obtain ⟨v', wy, hrun, hown, hgr⟩ := own_bytes_wide (w0 := wx) h.own hs hb hl ty
  have hB : Below base wx wy := (Below.refl _ wx).grown hgr hs (fun j hj => (h.own.lt j hj).1)
  refine ⟨v', wy, hrun, ⟨?_, h.bel.trans hB⟩, Nat.le_trans hs hB.size⟩
  rw [List.length_append]
  have e : bytesV (zs ++ ys) = bytesV zs ++ bytesV ys := by simp [bytesV]
  rw [e]
  exact hown

/-- Two rows of bytes behind each other, in memory of their own. -/
theorem joined_wide {W : World} {va vb : Value} {As Bs : List Int} (ha : BytesAt W.heap.size W va As) (hb : BytesAt W.heap.size W vb Bs) (la : As.length + Bs.length ≤ 2000000) :
    ∃ v1 w1 v2 w2, (Builtin.append_ #[29, 29] 29 #[.slice (some ⟨W.heap.size, 0, none⟩) 0 0, va]).run Try.prog (W.alloc (.cells #[] 5)) = .ok v1 w1 ∧ (Builtin.append_ #[29, 29] 29 #[v1, vb]).run Try.prog w1 = .ok v2 w2 ∧ Below W.heap.size W w1 ∧ OB W.heap.size W w2 v2 (As ++ Bs) := by
  have h0 := ob_empty W
  obtain ⟨v1, w1, r1, o1, s1⟩ := h0.wide h0.bel.size (ha.later h0.bel) (by simp; omega) 29
  obtain ⟨v2, w2, r2, o2, s2⟩ := o1.wide s1 (hb.later o1.bel) (by simp; omega) 29
  exact ⟨v1, w1, v2, w2, r1, r2, o1.bel, by simpa using o2⟩

/-- b[4:] -/
def from4 (b off n cap : Nat) : Value := if cap = 4 then .slice (some ⟨b, off, none⟩) 0 0 else .slice (some ⟨b, off + 4, none⟩) (n - 4) (cap - 4)
theorem ex_from4 {o : Oper} {a : Act} {W : World} (k : Nat) {b off n cap : Nat} (hop : o.op = Op.slice 29 (.tmp k) (some (.const (.int .i64 4))) none none) (hk : a.eval (.tmp k) = .slice (some ⟨b, off, none⟩) n cap) (h1 : 4 ≤ n) (h2 : n ≤ cap) (hev : a.eval (.const (.int .i64 4)) = .int .i64 4) :
    (execOp a.eval o).run Try.prog W = .ok (.value (from4 b off n cap)) W := by
  have q1 : (4 : Int) ≤ (n : Int) := by omega
  have q2 : (n : Int) ≤ (cap : Int) := by omega
  generalize a.eval = ev at *
  unfold from4
  by_cases hc : cap = 4
  · obtain rfl : n = 4 := by omega
    subst hc
    simp [execOp, hop, hk, hev, go_sem]
  · rw [if_neg hc]
    simp [execOp, hop, hk, hev, go_sem, q1, q2, hc]
theorem from4_slc (b off n cap : Nat) : ∃ x m c, from4 b off n cap = .slice x m c := by
  unfold from4
  split <;> exact ⟨_, _, _, rfl⟩
theorem from4_bytes {W : World} {b off cap : Nat} {zs : List Int} (h : BytesAt W.heap.size W (.slice (some ⟨b, off, none⟩) zs.length cap) zs) (h1 : 4 ≤ zs.length) (h2 : zs.length ≤ cap) : BytesAt W.heap.size W (from4 b off zs.length cap) (zs.drop 4) := by
  obtain ⟨hf, hl, a, c, e, hz⟩ := h
  cases e
  have hfd : Fit (zs.drop 4) := fun z hz => hf z (List.mem_of_mem_drop hz)
  rcases hz with hz | ⟨b', off', e, hb, hc⟩
  · omega
  cases e
  unfold from4
  by_cases hcap : cap = 4
  · rw [if_pos hcap]
    have e0 : zs.drop 4 = [] := List.drop_eq_nil_of_le (by omega)
    rw [e0]
    exact ⟨fun z hz => by simp at hz, by simp, _, _, rfl, .inl rfl⟩
  · rw [if_neg hcap]
    refine ⟨hfd, by rw [List.length_drop]; omega, some ⟨b, off + 4, none⟩, cap - 4, by rw [List.length_drop], .inr ⟨b, off + 4, rfl, hb, fun j hj => ?_⟩⟩
    rw [List.length_drop] at hj
    have := hc (4 + j) (by omega)
    rw [List.getElem?_drop, Nat.add_assoc]
    exact this

end Go.Proofs.Ytnlaomjhnndblaa

namespace Go.Proofs.Ytnlaomjhnndblaa
open Go Go.RowKit Go.Shelf
set_option linter.unusedVariables false
set_option linter.unusedSimpArgs false

theorem fit_take {zs : List Int} (h : Fit zs) (n : Nat) : Fit (zs.take n) := fun z hz => h z (List.mem_of_mem_take hz)
theorem take4_bytes {W : World} {b off cap : Nat} {zs : List Int} (h : BytesAt W.heap.size W (.slice (some ⟨b, off, none⟩) zs.length cap) zs) (h1 : 4 ≤ zs.length) : BytesAt W.heap.size W (.slice (some ⟨b, off, none⟩) 4 cap) (zs.take 4) := by
  obtain ⟨hf, hl, a, c, e, hz⟩ := h
  cases e
  have e4 : (zs.take 4).length = 4 := by rw [List.length_take]; omega
  rcases hz with hz | ⟨b', off', e, hb, hc⟩
  · omega
  cases e
  refine ⟨fit_take hf 4, by omega, some ⟨b, off, none⟩, cap, by rw [e4], .inr ⟨b, off, rfl, hb, fun j hj => ?_⟩⟩
  rw [e4] at hj
  rw [List.getElem?_take_of_lt hj]
  exact hc j (by omega)
theorem laid_two (zs : List Int) (o : Nat) (x : Int) (h : o + 2 ≤ zs.length) : (zs.set o (x / 256)).set (o + 1) (x % 256) = laid zs o (w2 x) := by
  unfold laid w2
  apply List.ext_getElem?
  intro i
  simp only [List.getElem?_set, List.length_set]
  rcases Nat.lt_trichotomy i o with hi | hi | hi
  · rw [if_neg (by omega), if_neg (by omega), List.append_assoc, List.getElem?_append_left (by simp; omega), List.getElem?_take_of_lt hi]
  · subst hi
    rw [if_neg (by omega), if_pos rfl, if_pos (by omega), List.append_assoc, List.getElem?_append_right (by simp; omega)]
    simp
    rw [Nat.min_eq_left (by omega)]
    simp
  · by_cases h1 : i = o + 1
    · subst h1
      rw [if_pos rfl, if_pos (by omega), List.append_assoc, List.getElem?_append_right (by simp; omega)]
      simp
      rw [Nat.min_eq_left (by omega)]
      simp
    · rw [if_neg (by omega), if_neg (by omega), List.getElem?_append_right (by simp; omega)]
      simp
      congr 1
      omega

set_option maxHeartbeats 2000000 in
set_option maxRecDepth 100000 in
theorem RRewrite_bad (p : Int) (v f t : Value) (b zs ys : List Int) (s d : Int) (w : World) (hv : RowC w v b) (hf : BytesAt w.heap.size w f zs) (ht : BytesAt w.heap.size w t ys) (h : kIs p = false ∨ b.length < 4) :
    Calls Try.prog 35 #[.int .u8 p, v, f, t, .int .u16 s, .int .u16 d] w fun e w' => e = .returned (.tuple #[.slice none 0 0, .int .i64 (rwE p b zs ys)]) ∧ w' = w := by
  obtain ⟨a, cap, rfl, _, _⟩ := hv.val
  obtain ⟨a2, cap2, rfl, _⟩ := hf.val
  obtain ⟨a3, cap3, rfl, _⟩ := ht.val
  by_cases hk : kIs p = false
  · have e : rwE p b zs ys = 64 := if_pos hk
    rw [e]
    have h6 : (p != 6) = true := by simp [kIs] at hk; simpa using hk.1
    have h17 : (p != 17) = true := by simp [kIs] at hk; simpa using hk.2
    clear e h hk hv hf ht
    go_enter Try.func35, Try.ntmps35
    go_wp2
    go_ret2
    exact ⟨rfl, rfl⟩
  · have hb : b.length < 4 := by
      rcases h with h | h
      · exact absurd h hk
      · exact h
    have e : rwE p b zs ys = 60 := by unfold rwE; rw [if_neg hk, if_pos hb]
    rw [e]
    have hk2 : kIs p = true := by simpa using hk
    have hp : p = 6 ∨ p = 17 := (kIs_cases hk2).imp And.left And.left
    have hb2 : (b.length : Int) < 4 := by omega
    clear e h hk hk2 hv hf ht
    generalize b.length = n at *
    generalize zs.length = n2 at *
    generalize ys.length = n3 at *
    rcases hp with rfl | rfl
    · go_enter Try.func35, Try.ntmps35
      go_wp2
      go_ret2
      exact ⟨rfl, rfl⟩
    · go_enter Try.func35, Try.ntmps35
      go_wp2
      go_ret2
      exact ⟨rfl, rfl⟩

set_option maxHeartbeats 8000000 in
set_option maxRecDepth 100000 in
theorem RRewrite_good (p : Int) (v f t : Value) (b zs ys : List Int) (s d : Int) (hs : 0 ≤ s ∧ s ≤ 65535) (hd : 0 ≤ d ∧ d ≤ 65535) (w : World) (hv : RowC w v b) (hf : BytesAt w.heap.size w f zs) (ht : BytesAt w.heap.size w t ys) (hk : kIs p = true) (hb : 4 ≤ b.length) (hbl : b.length ≤ 1048576) (hzl : zs.length + ys.length ≤ 1048576) :
    Calls Try.prog 35 #[.int .u8 p, v, f, t, .int .u16 s, .int .u16 d] w fun e w' => RwP w b.length (rwE p b zs ys) (rwL p b zs ys s d) e w' := by
  have hp : p = 6 ∨ p = 17 := (kIs_cases hk).imp And.left And.left
  have hE : rwE p b zs ys = if zs.length = ys.length ∧ zs.length % 2 = 0 then 0 else 10 := by
    unfold rwE
    rw [if_neg (by rw [hk]; decide), if_neg (by omega)]
  have hvB := hv.bytes
  obtain ⟨a, cap, hve, hcap, hva⟩ := hv.val
  obtain ⟨blk, off, rfl, hblk, hcell⟩ := hva.resolve_left (by omega)
  subst hve
  obtain ⟨a2, cap2, rfl, _⟩ := hf.val
  obtain ⟨a3, cap3, rfl, _⟩ := ht.val
  have q6 : ∀ x : Int, x = 6 → (x != 6) = false := fun x h => by rw [h]; rfl
  have qb : ¬ ((b.length : Int) < 4) := by omega
  by_cases hev : zs.length = ys.length ∧ zs.length % 2 = 0
  · rw [if_pos hev] at hE
    rw [hE]
    obtain ⟨he1, he2⟩ := hev
    rw [← he1] at ht ⊢
    have hU : ∀ (was : Int), 0 ≤ was ∧ was ≤ 65535 → ∀ W, Below w.heap.size w W → Calls Try.prog 63 #[.int .u16 was, .slice a2 zs.length cap2, .slice a3 zs.length cap3] W fun e w' => e = .returned (.tuple #[.int .u16 (upd was zs ys), .int .i64 0]) ∧ Below W.heap.size W w' := fun was hw W hW => update_wide was hw a2 a3 zs.length cap2 cap3 zs ys W (hf.later hW) (ht.later hW) he2 (by omega)
    have HU : Hid _ := hU
    have HV : Hid (∀ W, Below w.heap.size w W → BytesAt W.heap.size W (.slice (some ⟨blk, off, none⟩) b.length cap) b) := fun W hW => hvB.later hW
    have fz := hf.fit
    have fy := ht.fit
    have fb := hv.fit
    have HFZ : Hid _ := fz
    have HFY : Hid _ := fy
    clear hU hvB hv hf ht fz fy hE he1 he2 hcell
    generalize zs.length = N at *
    rcases hp with rfl | rfl
    · have hwr := wd2_range fb 16
      have HEND : Hid (∀ (g k : Nat) (w3 : World) (M : List Int), M = rwL 6 b zs ys s d → b.length ≤ k → w.heap.size ≤ g → OwnG w3 g M → Below w.heap.size w w3 → RwP w b.length 0 (rwL 6 b zs ys s d) (.returned (.tuple #[.slice (some ⟨g, 0, none⟩) b.length k, .int .i64 0])) w3) := fun g k w3 M e1 e2 e3 e4 e5 => ⟨fun h => absurd rfl h, fun _ => ⟨g, k, rfl, e2, e3, e1 ▸ e4⟩, e5⟩
      generalize hQ : (fun e w3 => RwP w b.length 0 (rwL 6 b zs ys s d) e w3) = Q
      have HQ2 : Hid _ := hQ
      clear hQ hva
      go_enter Try.func35, Try.ntmps35
      go_wp2_with fail
      refine Calls.mono (HU.out 0 (by omega) w (Below.refl _ _)) ?_
      rintro _ u2 ⟨rfl, hB2⟩
      have ob0 : OB u2.heap.size u2 u2 (.slice none 0 0) [] := ⟨⟨rfl, .inl ⟨rfl, rfl⟩⟩, Below.refl _ _⟩
      go_wp2_with fail
      refine Calls.mono (put_calls ob0 (Nat.le_refl _) s (by omega) 2 (by decide) (by simp)) ?_
      rintro _ w3 ⟨v3, rfl, ob3, hs3, _⟩
      obtain ⟨x3, n3, c3, rfl⟩ := ob3.slc
      have OB3 : Hid _ := ob3
      clear ob3 ob0
      go_wp2_with fail
      refine Calls.mono (put_calls OB3.out hs3 d (by omega) 2 (by decide) (by simp [putB_length])) ?_
      rintro _ w4 ⟨v4, rfl, ob4, hs4, _⟩
      have e4 : [] ++ putB s 2 ++ putB d 2 = wbL [s, d] := by rw [putB_two hs, putB_two hd]; simp [wbL]
      rw [e4] at ob4
      have hpB : BytesAt w4.heap.size w4 v4 (wbL [s, d]) := own_bytes ob4.own (wbL_fit (fun z hz => by simp at hz; rcases hz with rfl | rfl <;> omega)) (by rw [wbL_length]; simp)
      have hB4 := hB2.trans (ob4.bel.mono hB2.size)
      obtain ⟨x4, c4, hv4, -⟩ := hpB.val
      have e5 : (wbL [s, d]).length = 4 := by rw [wbL_length]; rfl
      rw [e5] at hv4
      subst hv4
      have hd4 : Below w4.heap.size w4 w4.drew := (Below.refl _ _).drew
      have hB4d := hB4.trans (hd4.mono hB4.size)
      obtain ⟨va, wa, vb, w5, ra, rb, ha, ob5⟩ := joined_wide (W := w4.drew) (hpB.later hd4) (from4_bytes (HV.out w4.drew hB4d) hb hcap) (by rw [List.length_drop]; omega)
      have hz := hd4.trans (ha.mono hd4.size)
      have hx := hd4.trans (ob5.bel.mono hd4.size)
      have hbv : BytesAt w4.heap.size w4 (.slice (some ⟨blk, off, none⟩) b.length cap) b := HV.out w4 hB4
      clear OB3 ob4 e4 hs3
      go_wp2_with fail
      refine wp_region_held (S := fun W => Below w4.heap.size w4 W) (by kernel_rfl) ?_
      show wpAnyH _ _ _ _ _ 7 (Array.replicate 7 false) _ w4.drew
      refine take_one (i := 1) (d := some 46) (v := .slice x4 4 c4) rfl rfl rfl (by kernel_rfl) (by kernel_rfl) (by kernel_rfl) (fun _ _ d _ _ h => by cases d <;> exact h) (fun W hS => ex_move (.tmp 16) rfl rfl) hd4 ?_
      simp only [Act.put, List.setIfInBounds_toArray, List.set_cons_zero, List.set_cons_succ]
      refine take_one (i := 3) (d := some 48) (v := .slice (some ⟨blk, off, none⟩) b.length cap) rfl rfl rfl (by kernel_rfl) (by kernel_rfl) (by kernel_rfl) (fun _ _ d _ _ h => by cases d <;> exact h) (fun W hS => ex_move (.tmp 1) rfl rfl) hd4 ?_
      simp only [Act.put, List.setIfInBounds_toArray, List.set_cons_zero, List.set_cons_succ]
      refine take_one (i := 4) (d := some 49) (v := from4 blk off b.length cap) rfl rfl rfl (by kernel_rfl) (by kernel_rfl) (by kernel_rfl) (fun _ _ d _ _ h => by cases d <;> exact h) (fun W hS => ex_from4 48 rfl rfl hb hcap rfl) hd4 ?_
      simp only [Act.put, List.setIfInBounds_toArray, List.set_cons_zero, List.set_cons_succ]
      refine all_one (i := 0) (by kernel_rfl) rfl rfl ?_
      refine wp_build (d := some 45) rfl rfl ⟨hd4.alloc hd4.size _, ?_⟩
      simp only [Act.put, List.setIfInBounds_toArray, List.set_cons_zero, List.set_cons_succ]
      refine all_one (i := 2) (by kernel_rfl) rfl rfl ?_
      refine wp_append (d := some 47) (.tmp 45) (.tmp 46) 29 rfl rfl rfl rfl ra ⟨hz, ?_⟩
      simp only [Act.put, List.setIfInBounds_toArray, List.set_cons_zero, List.set_cons_succ]
      refine all_one (i := 5) (by kernel_rfl) rfl rfl ?_
      refine wp_append (d := some 50) (.tmp 47) (.tmp 49) 29 rfl rfl rfl rfl rb ⟨hx, ?_⟩
      simp only [Act.put, List.setIfInBounds_toArray, List.set_cons_zero, List.set_cons_succ]
      refine take_one (i := 6) (d := some 17) (v := vb) rfl rfl rfl (by kernel_rfl) (by kernel_rfl) (by kernel_rfl) (fun _ _ d _ _ h => by cases d <;> exact h) (fun W hS => ex_assign (.tmp 50) rfl rfl) hx ?_
      simp only [Act.put, List.setIfInBounds_toArray, List.set_cons_zero, List.set_cons_succ]
      refine wpAnyH_done (by kernel_rfl) ?_ _
      have hrl : (rw0 b s d).length = b.length := rw0_length hb s d
      obtain ⟨g, k5, hvb, hk5, -, hg5, own5⟩ := own_G (zs := rw0 b s d) ob5.own (by show 0 < (rw0 b s d).length; rw [hrl]; omega)
      have hvb2 : vb = .slice (some ⟨g, 0, none⟩) b.length k5 := hvb.trans (by show Value.slice _ (rw0 b s d).length _ = _; rw [hrl])
      subst hvb2
      have hk6 : b.length ≤ k5 := by rw [← hrl]; exact hk5
      have hg6 : w.heap.size ≤ g := Nat.le_trans hB4.size hg5
      have hB5 := hB4.trans (hx.mono hB4.size)
      have HB5 : Hid _ := hB5
      have HOWN : Hid _ := own5
      have HPB : Hid _ := hpB.later hx
      have HBV : Hid _ := HV.out w5 hB5
      clear ra rb ha ob5 hz hvb hk5 hpB hbv hd4 hB4d own5 hB5
      by_cases hlen : b.length < 18
      · have eL : rw0 b s d = rwL 6 b zs ys s d := (if_pos (show b.length < kAt 6 + 2 from hlen)).symm
        have HEL : Hid _ := eL
        have hl2 : (b.length : Int) < 18 := by omega
        clear eL HU HV
        generalize b.length = n at *
        go_wp2
        rw [← HQ2.out]
        exact HEND.out g k5 _ _ HEL.out hk6 hg6 HOWN.out HB5.out
      · have hl2 : (18 : Int) ≤ (b.length : Int) := by omega
        have hl3 : 18 ≤ b.length := by omega
        have eW : rwL 6 b zs ys s d = layO (rw0 b s d) 16 (ckP 6 (wd2 b 16) (upd (upd (wd2 b 16) zs ys) (b.take 4) (wbL [s, d]))) := by
          unfold rwL
          rw [if_neg (show ¬ b.length < kAt 6 + 2 from hlen)]
          unfold rwC
          rw [if_neg (show ¬ b.length < kAt 6 + 2 from hlen)]
          rfl
        have HG : Hid (Calls Try.prog 51 #[.slice (some ⟨blk, off, none⟩) b.length cap, .int .i64 16, .int .i64 2] w5 fun e w3 => e = .returned (.int .u64 (wd2 b 16)) ∧ w3 = w5) := by
          have h := get_calls _ b 16 2 w5 HBV.out (by decide) (by omega)
          rw [getB_two] at h
          exact h
        have hU1 := upd_range hwr HFZ.out HFY.out
        have HX : Hid (∀ W, Below w5.heap.size w5 W → Calls Try.prog 63 #[.int .u16 (upd (wd2 b 16) zs ys), .slice (some ⟨blk, off, none⟩) 4 cap, .slice x4 4 c4] W fun e w' => e = .returned (.tuple #[.int .u16 (upd (upd (wd2 b 16) zs ys) (b.take 4) (wbL [s, d])), .int .i64 0]) ∧ Below W.heap.size W w') := fun W hW => update_wide _ hU1 _ _ 4 cap c4 (b.take 4) (wbL [s, d]) W (take4_bytes (HBV.out.later hW) hb) (HPB.out.later hW) rfl (by decide)
        have hC := upd_range hU1 (fit_take fb 4) (wbL_fit (xs := [s, d]) (fun z hz => by simp at hz; rcases hz with rfl | rfl <;> omega))
        have HUP : Hid (Calls Try.prog 63 #[.int .u16 (wd2 b 16), .slice a2 N cap2, .slice a3 N cap3] w5 fun e w3 => e = .returned (.tuple #[.int .u16 (upd (wd2 b 16) zs ys), .int .i64 0]) ∧ Below w5.heap.size w5 w3) := HU.out _ hwr w5 HB5.out
        clear HU HV
        generalize upd (upd (wd2 b 16) zs ys) (b.take 4) (wbL [s, d]) = C at *
        generalize upd (wd2 b 16) zs ys = U1 at *
        have eL : laid (rw0 b s d) 16 (w2 C) = rwL 6 b zs ys s d := by rw [eW]; rfl
        have HEL : Hid _ := eL
        clear eL eW
        generalize hb0 : wd2 b 16 = W0 at *
        clear hb0
        go_wp2_with fail
        refine Calls.mono HG.out ?_
        rintro _ _ ⟨rfl, rfl⟩
        go_wp2_with fail
        refine Calls.mono HUP.out ?_
        rintro _ w6 ⟨rfl, hB6⟩
        go_wp2_with fail
        refine Calls.mono (HX.out w6 hB6) ?_
        rintro _ w7 ⟨rfl, hB7⟩
        clear HG HUP HX
        have own7 : OwnG w7 g (rw0 b s d) := HOWN.out.kept HOWN.out.lt (hB6.trans (hB7.mono hB6.size))
        have hB57 := HB5.out.trans ((hB6.trans (hB7.mono hB6.size)).mono HB5.out.size)
        have i1 := own7.cell 16 (by rw [hrl]; omega)
        have i2 := own7.cell 17 (by rw [hrl]; omega)
        have i3 := own7.open
        have hfin := (own7.set 16 (by rw [hrl]; omega) (C / 256)).set 17 (by rw [List.length_set, hrl]; omega) (C % 256)
        rw [laid_two _ _ _ (by rw [hrl]; omega)] at hfin
        have HFIN : Hid _ := hfin
        have hBf : Below w.heap.size w ((w7.setCell ⟨g, 16, none⟩ (.int .u8 (C / 256))).setCell ⟨g, 17, none⟩ (.int .u8 (C % 256))) := (hB57.setCell (p := ⟨g, 16, none⟩) hg6 _).setCell (p := ⟨g, 17, none⟩) hg6 _
        have m1 : IntKind.u8.wrap (C / 256) = C / 256 := by rw [IntKind.wrap_u8]; omega
        have m2 : IntKind.u8.wrap C = C % 256 := by rw [IntKind.wrap_u8]
        have HBF : Hid _ := hBf
        have HRL : Hid _ := hrl
        clear hfin hBf own7 hB57 hrl
        generalize b.length = n at *
        go_wp2
        rw [← HQ2.out]
        exact HEND.out g k5 _ _ HEL.out hk6 hg6 HFIN.out HBF.out
    · have hwr := wd2_range fb 6
      have HEND : Hid (∀ (g k : Nat) (w3 : World) (M : List Int), M = rwL 17 b zs ys s d → b.length ≤ k → w.heap.size ≤ g → OwnG w3 g M → Below w.heap.size w w3 → RwP w b.length 0 (rwL 17 b zs ys s d) (.returned (.tuple #[.slice (some ⟨g, 0, none⟩) b.length k, .int .i64 0])) w3) := fun g k w3 M e1 e2 e3 e4 e5 => ⟨fun h => absurd rfl h, fun _ => ⟨g, k, rfl, e2, e3, e1 ▸ e4⟩, e5⟩
      generalize hQ : (fun e w3 => RwP w b.length 0 (rwL 17 b zs ys s d) e w3) = Q
      have HQ2 : Hid _ := hQ
      clear hQ hva
      go_enter Try.func35, Try.ntmps35
      go_wp2_with fail
      refine Calls.mono (HU.out 0 (by omega) w (Below.refl _ _)) ?_
      rintro _ u2 ⟨rfl, hB2⟩
      have ob0 : OB u2.heap.size u2 u2 (.slice none 0 0) [] := ⟨⟨rfl, .inl ⟨rfl, rfl⟩⟩, Below.refl _ _⟩
      go_wp2_with fail
      refine Calls.mono (put_calls ob0 (Nat.le_refl _) s (by omega) 2 (by decide) (by simp)) ?_
      rintro _ w3 ⟨v3, rfl, ob3, hs3, _⟩
      obtain ⟨x3, n3, c3, rfl⟩ := ob3.slc
      have OB3 : Hid _ := ob3
      clear ob3 ob0
      go_wp2_with fail
      refine Calls.mono (put_calls OB3.out hs3 d (by omega) 2 (by decide) (by simp [putB_length])) ?_
      rintro _ w4 ⟨v4, rfl, ob4, hs4, _⟩
      have e4 : [] ++ putB s 2 ++ putB d 2 = wbL [s, d] := by rw [putB_two hs, putB_two hd]; simp [wbL]
      rw [e4] at ob4
      have hpB : BytesAt w4.heap.size w4 v4 (wbL [s, d]) := own_bytes ob4.own (wbL_fit (fun z hz => by simp at hz; rcases hz with rfl | rfl <;> omega)) (by rw [wbL_length]; simp)
      have hB4 := hB2.trans (ob4.bel.mono hB2.size)
      obtain ⟨x4, c4, hv4, -⟩ := hpB.val
      have e5 : (wbL [s, d]).length = 4 := by rw [wbL_length]; rfl
      rw [e5] at hv4
      subst hv4
      have hd4 : Below w4.heap.size w4 w4.drew := (Below.refl _ _).drew
      have hB4d := hB4.trans (hd4.mono hB4.size)
      obtain ⟨va, wa, vb, w5, ra, rb, ha, ob5⟩ := joined_wide (W := w4.drew) (hpB.later hd4) (from4_bytes (HV.out w4.drew hB4d) hb hcap) (by rw [List.length_drop]; omega)
      have hz := hd4.trans (ha.mono hd4.size)
      have hx := hd4.trans (ob5.bel.mono hd4.size)
      have hbv : BytesAt w4.heap.size w4 (.slice (some ⟨blk, off, none⟩) b.length cap) b := HV.out w4 hB4
      clear OB3 ob4 e4 hs3
      go_wp2_with fail
      refine wp_region_held (S := fun W => Below w4.heap.size w4 W) (by kernel_rfl) ?_
      show wpAnyH _ _ _ _ _ 7 (Array.replicate 7 false) _ w4.drew
      refine take_one (i := 1) (d := some 46) (v := .slice x4 4 c4) rfl rfl rfl (by kernel_rfl) (by kernel_rfl) (by kernel_rfl) (fun _ _ d _ _ h => by cases d <;> exact h) (fun W hS => ex_move (.tmp 16) rfl rfl) hd4 ?_
      simp only [Act.put, List.setIfInBounds_toArray, List.set_cons_zero, List.set_cons_succ]
      refine take_one (i := 3) (d := some 48) (v := .slice (some ⟨blk, off, none⟩) b.length cap) rfl rfl rfl (by kernel_rfl) (by kernel_rfl) (by kernel_rfl) (fun _ _ d _ _ h => by cases d <;> exact h) (fun W hS => ex_move (.tmp 1) rfl rfl) hd4 ?_
      simp only [Act.put, List.setIfInBounds_toArray, List.set_cons_zero, List.set_cons_succ]
      refine take_one (i := 4) (d := some 49) (v := from4 blk off b.length cap) rfl rfl rfl (by kernel_rfl) (by kernel_rfl) (by kernel_rfl) (fun _ _ d _ _ h => by cases d <;> exact h) (fun W hS => ex_from4 48 rfl rfl hb hcap rfl) hd4 ?_
      simp only [Act.put, List.setIfInBounds_toArray, List.set_cons_zero, List.set_cons_succ]
      refine all_one (i := 0) (by kernel_rfl) rfl rfl ?_
      refine wp_build (d := some 45) rfl rfl ⟨hd4.alloc hd4.size _, ?_⟩
      simp only [Act.put, List.setIfInBounds_toArray, List.set_cons_zero, List.set_cons_succ]
      refine all_one (i := 2) (by kernel_rfl) rfl rfl ?_
      refine wp_append (d := some 47) (.tmp 45) (.tmp 46) 29 rfl rfl rfl rfl ra ⟨hz, ?_⟩
      simp only [Act.put, List.setIfInBounds_toArray, List.set_cons_zero, List.set_cons_succ]
      refine all_one (i := 5) (by kernel_rfl) rfl rfl ?_
      refine wp_append (d := some 50) (.tmp 47) (.tmp 49) 29 rfl rfl rfl rfl rb ⟨hx, ?_⟩
      simp only [Act.put, List.setIfInBounds_toArray, List.set_cons_zero, List.set_cons_succ]
      refine take_one (i := 6) (d := some 17) (v := vb) rfl rfl rfl (by kernel_rfl) (by kernel_rfl) (by kernel_rfl) (fun _ _ d _ _ h => by cases d <;> exact h) (fun W hS => ex_assign (.tmp 50) rfl rfl) hx ?_
      simp only [Act.put, List.setIfInBounds_toArray, List.set_cons_zero, List.set_cons_succ]
      refine wpAnyH_done (by kernel_rfl) ?_ _
      have hrl : (rw0 b s d).length = b.length := rw0_length hb s d
      obtain ⟨g, k5, hvb, hk5, -, hg5, own5⟩ := own_G (zs := rw0 b s d) ob5.own (by show 0 < (rw0 b s d).length; rw [hrl]; omega)
      have hvb2 : vb = .slice (some ⟨g, 0, none⟩) b.length k5 := hvb.trans (by show Value.slice _ (rw0 b s d).length _ = _; rw [hrl])
      subst hvb2
      have hk6 : b.length ≤ k5 := by rw [← hrl]; exact hk5
      have hg6 : w.heap.size ≤ g := Nat.le_trans hB4.size hg5
      have hB5 := hB4.trans (hx.mono hB4.size)
      have HB5 : Hid _ := hB5
      have HOWN : Hid _ := own5
      have HPB : Hid _ := hpB.later hx
      have HBV : Hid _ := HV.out w5 hB5
      clear ra rb ha ob5 hz hvb hk5 hpB hbv hd4 hB4d own5 hB5
      by_cases hlen : b.length < 8
      · have eL : rw0 b s d = rwL 17 b zs ys s d := (if_pos (show b.length < kAt 17 + 2 from hlen)).symm
        have HEL : Hid _ := eL
        have hl2 : (b.length : Int) < 8 := by omega
        clear eL HU HV
        generalize b.length = n at *
        go_wp2
        rw [← HQ2.out]
        exact HEND.out g k5 _ _ HEL.out hk6 hg6 HOWN.out HB5.out
      · have hl2 : (8 : Int) ≤ (b.length : Int) := by omega
        have hl3 : 8 ≤ b.length := by omega
        have eW : rwL 17 b zs ys s d = layO (rw0 b s d) 6 (ckP 17 (wd2 b 6) (upd (upd (wd2 b 6) zs ys) (b.take 4) (wbL [s, d]))) := by
          unfold rwL
          rw [if_neg (show ¬ b.length < kAt 17 + 2 from hlen)]
          unfold rwC
          rw [if_neg (show ¬ b.length < kAt 17 + 2 from hlen)]
          rfl
        have HG : Hid (Calls Try.prog 51 #[.slice (some ⟨blk, off, none⟩) b.length cap, .int .i64 6, .int .i64 2] w5 fun e w3 => e = .returned (.int .u64 (wd2 b 6)) ∧ w3 = w5) := by
          have h := get_calls _ b 6 2 w5 HBV.out (by decide) (by omega)
          rw [getB_two] at h
          exact h
        have hU1 := upd_range hwr HFZ.out HFY.out
        have HX : Hid (∀ W, Below w5.heap.size w5 W → Calls Try.prog 63 #[.int .u16 (upd (wd2 b 6) zs ys), .slice (some ⟨blk, off, none⟩) 4 cap, .slice x4 4 c4] W fun e w' => e = .returned (.tuple #[.int .u16 (upd (upd (wd2 b 6) zs ys) (b.take 4) (wbL [s, d])), .int .i64 0]) ∧ Below W.heap.size W w') := fun W hW => update_wide _ hU1 _ _ 4 cap c4 (b.take 4) (wbL [s, d]) W (take4_bytes (HBV.out.later hW) hb) (HPB.out.later hW) rfl (by decide)
        have hC := upd_range hU1 (fit_take fb 4) (wbL_fit (xs := [s, d]) (fun z hz => by simp at hz; rcases hz with rfl | rfl <;> omega))
        have HUP : Hid (Calls Try.prog 63 #[.int .u16 (wd2 b 6), .slice a2 N cap2, .slice a3 N cap3] w5 fun e w3 => e = .returned (.tuple #[.int .u16 (upd (wd2 b 6) zs ys), .int .i64 0]) ∧ Below w5.heap.size w5 w3) := HU.out _ hwr w5 HB5.out
        clear HU HV
        generalize upd (upd (wd2 b 6) zs ys) (b.take 4) (wbL [s, d]) = C at *
        generalize upd (wd2 b 6) zs ys = U1 at *
        by_cases hw0 : wd2 b 6 = 0
        · have eL : rw0 b s d = rwL 17 b zs ys s d := by rw [eW, hw0]; rfl
          have HEL : Hid _ := eL
          rw [hw0] at HG
          clear eL eW hw0 HUP HX
          generalize b.length = n at *
          go_wp2_with fail
          refine Calls.mono HG.out ?_
          rintro _ _ ⟨rfl, rfl⟩
          go_wp2
          rw [← HQ2.out]
          exact HEND.out g k5 _ _ HEL.out hk6 hg6 HOWN.out HB5.out
        · have eL : laid (rw0 b s d) 6 (w2 (nz C)) = rwL 17 b zs ys s d := by
            rw [eW]
            show _ = layO _ _ (if wd2 b 6 = 0 then none else some (nz C))
            rw [if_neg hw0]
            rfl
          have HEL : Hid _ := eL
          have hwn : (wd2 b 6 == 0) = false := beq_eq_false_iff_ne.2 hw0
          clear eL eW hw0
          generalize hb0 : wd2 b 6 = W0 at *
          clear hb0
          have HGW : Hid (Calls Try.prog 51 #[.slice (some ⟨blk, off, none⟩) b.length cap, .int .i64 6, .int .i64 2] w5 fun e w3 => e = .returned (.int .u64 W0) ∧ w3 = w5) := HG.out
          go_wp2_with fail
          refine Calls.mono HG.out ?_
          rintro _ _ ⟨rfl, rfl⟩
          go_wp2_with fail
          refine Calls.mono HGW.out ?_
          rintro _ _ ⟨rfl, rfl⟩
          go_wp2_with fail
          refine Calls.mono HUP.out ?_
          rintro _ w6 ⟨rfl, hB6⟩
          go_wp2_with fail
          refine Calls.mono (HX.out w6 hB6) ?_
          rintro _ w7 ⟨rfl, hB7⟩
          clear HG HGW HUP HX
          by_cases hc0 : C = 0
          · have enz : nz C = 65535 := if_pos hc0
            rw [enz] at HEL
            have hc1 : (C == 0) = true := beq_iff_eq.2 hc0
            clear enz hc0
            have own7 : OwnG w7 g (rw0 b s d) := HOWN.out.kept HOWN.out.lt (hB6.trans (hB7.mono hB6.size))
            have hB57 := HB5.out.trans ((hB6.trans (hB7.mono hB6.size)).mono HB5.out.size)
            have i1 := own7.cell 6 (by rw [hrl]; omega)
            have i2 := own7.cell 7 (by rw [hrl]; omega)
            have i3 := own7.open
            have hfin := (own7.set 6 (by rw [hrl]; omega) ((65535 : Int) / 256)).set 7 (by rw [List.length_set, hrl]; omega) ((65535 : Int) % 256)
            rw [laid_two _ _ _ (by rw [hrl]; omega)] at hfin
            have HFIN : Hid _ := hfin
            have hBf : Below w.heap.size w ((w7.setCell ⟨g, 6, none⟩ (.int .u8 ((65535 : Int) / 256))).setCell ⟨g, 7, none⟩ (.int .u8 ((65535 : Int) % 256))) := (hB57.setCell (p := ⟨g, 6, none⟩) hg6 _).setCell (p := ⟨g, 7, none⟩) hg6 _
            have m1 : IntKind.u8.wrap ((65535 : Int) / 256) = (65535 : Int) / 256 := by rw [IntKind.wrap_u8]; omega
            have m2 : IntKind.u8.wrap (65535 : Int) = (65535 : Int) % 256 := by rw [IntKind.wrap_u8]
            have HBF : Hid _ := hBf
            have HRL : Hid _ := hrl
            clear hfin hBf own7 hB57 hrl
            generalize b.length = n at *
            go_wp2
            rw [← HQ2.out]
            exact HEND.out g k5 _ _ HEL.out hk6 hg6 HFIN.out HBF.out
          · have enz : nz C = C := if_neg hc0
            rw [enz] at HEL
            have hc1 : (C == 0) = false := beq_eq_false_iff_ne.2 hc0
            clear enz hc0
            have own7 : OwnG w7 g (rw0 b s d) := HOWN.out.kept HOWN.out.lt (hB6.trans (hB7.mono hB6.size))
            have hB57 := HB5.out.trans ((hB6.trans (hB7.mono hB6.size)).mono HB5.out.size)
            have i1 := own7.cell 6 (by rw [hrl]; omega)
            have i2 := own7.cell 7 (by rw [hrl]; omega)
            have i3 := own7.open
            have hfin := (own7.set 6 (by rw [hrl]; omega) (C / 256)).set 7 (by rw [List.length_set, hrl]; omega) (C % 256)
            rw [laid_two _ _ _ (by rw [hrl]; omega)] at hfin
            have HFIN : Hid _ := hfin
            have hBf : Below w.heap.size w ((w7.setCell ⟨g, 6, none⟩ (.int .u8 (C / 256))).setCell ⟨g, 7, none⟩ (.int .u8 (C % 256))) := (hB57.setCell (p := ⟨g, 6, none⟩) hg6 _).setCell (p := ⟨g, 7, none⟩) hg6 _
            have m1 : IntKind.u8.wrap (C / 256) = C / 256 := by rw [IntKind.wrap_u8]; omega
            have m2 : IntKind.u8.wrap C = C % 256 := by rw [IntKind.wrap_u8]
            have HBF : Hid _ := hBf
            have HRL : Hid _ := hrl
            clear hfin hBf own7 hB57 hrl
            generalize b.length = n at *
            go_wp2
            rw [← HQ2.out]
            exact HEND.out g k5 _ _ HEL.out hk6 hg6 HFIN.out HBF.out
  · rw [if_neg hev] at hE
    rw [hE]
    have HU : Hid _ := update_ref_no 0 a2 a3 zs.length ys.length cap2 cap3 w hf.len ht.len hev
    have HQ : Hid (RwP w b.length 10 (rwL p b zs ys s d) (.returned (.tuple #[.slice none 0 0, .int .i64 10])) w) := ⟨fun _ => rfl, fun h => absurd h (by decide), Below.refl _ _⟩
    generalize hQ : (fun e w' => RwP w b.length 10 (rwL p b zs ys s d) e w') = Q
    have HQ2 : Hid _ := hQ
    clear hQ hE hev hcell hvB hv hf ht
    generalize b.length = n at *
    generalize zs.length = n2 at *
    generalize ys.length = n3 at *
    rcases hp with rfl | rfl
    all_goals
      go_enter Try.func35, Try.ntmps35
      go_wp2_with fail
      refine Calls.mono HU.out ?_
      rintro _ _ ⟨rfl, rfl⟩
      go_wp2
      rw [← HQ2.out]
      exact HQ.out
end Go.Proofs.Ytnlaomjhnndblaa

namespace Go.Proofs.Ytnlaomjhnndblaa
open Go Go.RowKit Go.Shelf Go.ChangeShapes Go.WideShapes Go.ChangeAt
set_option linter.unusedVariables false
set_option linter.unusedSimpArgs false

theorem rw0_fit {b : List Int} (fb : Fit b) {s d : Int} (hs : 0 ≤ s ∧ s ≤ 65535) (hd : 0 ≤ d ∧ d ≤ 65535) : Fit (rw0 b s d) := by
  unfold rw0
  exact (wbL_fit (xs := [s, d]) (fun z hz => by simp at hz; rcases hz with rfl | rfl <;> omega)).append (fun z hz => fb z (List.mem_of_mem_drop hz))
theorem rwL_ok (p : Int) {b zs ys : List Int} (hk : kIs p = true) (fb : Fit b) (fz : Fit zs) (fy : Fit ys) (hb : 4 ≤ b.length) {s d : Int} (hs : 0 ≤ s ∧ s ≤ 65535) (hd : 0 ≤ d ∧ d ≤ 65535) : Fit (rwL p b zs ys s d) ∧ (rwL p b zs ys s d).length = b.length := by
  have h0 := rw0_fit fb hs hd
  have hl := rw0_length hb s d
  have hU := upd_range (upd_range (wd2_range fb (kAt p)) fz fy) (fit_take fb 4) (wbL_fit (xs := [s, d]) (fun z hz => by simp at hz; rcases hz with rfl | rfl <;> omega))
  unfold rwL
  split
  · exact ⟨h0, hl⟩
  · rename_i hn
    unfold rwC
    rw [if_neg hn]
    generalize upd (upd (wd2 b (kAt p)) zs ys) (b.take 4) (wbL [s, d]) = C at *
    unfold ckP
    split
    · split
      · exact ⟨h0, hl⟩
      · exact ⟨laid_fit h0 (w2_fit (nz_range hU)) _, by rw [show layO (rw0 b s d) (kAt p) (some (nz C)) = laid (rw0 b s d) (kAt p) (w2 (nz C)) from rfl, laid_length _ (by rw [hl]; simp [w2]; omega), hl]⟩
    · exact ⟨laid_fit h0 (w2_fit hU) _, by rw [show layO (rw0 b s d) (kAt p) (some C) = laid (rw0 b s d) (kAt p) (w2 C) from rfl, laid_length _ (by rw [hl]; simp [w2]; omega), hl]⟩

/-- What both sides answer. -/
def RwQ (w : World) (er : Int) (Z : List Int) (e : Ending) (w' : World) : Prop := ∃ v, e = .returned (.tuple #[v, .int .i64 er]) ∧ BytesAt w'.heap.size w' v Z ∧ Below w.heap.size w w'
theorem RwP.bytes {w w' : World} {n : Nat} {er : Int} {L : List Int} {e : Ending} (h : RwP w n er L e w') (fL : Fit L) (lL : L.length = n) (hn : n ≤ 140737488351232) : RwQ w er (if er = 0 then L else []) e w' := by
  obtain ⟨h1, h2, h3⟩ := h
  by_cases h0 : er = 0
  · obtain ⟨g, k, e1, e2, e3, e4⟩ := h2 h0
    rw [if_pos h0, h0]
    exact ⟨_, e1, e4.all fL (by omega) n k lL.symm, h3⟩
  · rw [if_neg h0]
    exact ⟨_, h1 h0, BytesAt.none w', h3⟩
theorem rewrite_both (p : Int) (v f t : Value) (b zs ys : List Int) (s d : Int) (hs : 0 ≤ s ∧ s ≤ 65535) (hd : 0 ≤ d ∧ d ≤ 65535) (w : World) (hv : RowC w v b) (hf : BytesAt w.heap.size w f zs) (ht : BytesAt w.heap.size w t ys) (hbl : b.length ≤ 1048576) (hzl : zs.length + ys.length ≤ 1048576) :
    ∃ (er : Int) (Z : List Int), (∀ W, Below w.heap.size w W → Calls Try.prog 34 #[.int .u8 p, v, f, t, .int .u16 s, .int .u16 d] W fun e w' => RwQ W er Z e w') ∧ (∀ W, Below w.heap.size w W → Calls Try.prog 35 #[.int .u8 p, v, f, t, .int .u16 s, .int .u16 d] W fun e w' => RwQ W er Z e w') := by
  by_cases hbad : kIs p = false ∨ b.length < 4
  · exact ⟨_, [], fun W hW => (Rewrite_bad p v f t b zs ys s d W (hv.on hW) (hf.later hW) (ht.later hW) hbad).mono fun e w' ⟨he, hw⟩ => ⟨_, he, BytesAt.none w', hw ▸ Below.refl _ _⟩, fun W hW => (RRewrite_bad p v f t b zs ys s d W (hv.on hW) (hf.later hW) (ht.later hW) hbad).mono fun e w' ⟨he, hw⟩ => ⟨_, he, BytesAt.none w', hw ▸ Below.refl _ _⟩⟩
  · have hk : kIs p = true := by simpa using fun h => hbad (.inl h)
    have hb : 4 ≤ b.length := Nat.le_of_not_lt fun h => hbad (.inr h)
    obtain ⟨fL, lL⟩ := rwL_ok p hk hv.fit hf.fit ht.fit hb hs hd
    exact ⟨_, _, fun W hW => (Rewrite_good p v f t b zs ys s d hs hd W (hv.on hW) (hf.later hW) (ht.later hW) hk hb).mono fun e w' h => h.bytes fL lL hv.len, fun W hW => (RRewrite_good p v f t b zs ys s d hs hd W (hv.on hW) (hf.later hW) (ht.later hW) hk hb hbl hzl).mono fun e w' h => h.bytes fL lL hv.len⟩

set_option maxHeartbeats 4000000 in
set_option maxRecDepth 100000 in
theorem segmentRewrites_walk (p : Int) (v f t : Value) (b zs ys : List Int) (s d : Int) (hs : 0 ≤ s ∧ s ≤ 65535) (hd : 0 ≤ d ∧ d ≤ 65535) (w : World) (hv : RowC w v b) (hf : BytesAt w.heap.size w f zs) (ht : BytesAt w.heap.size w t ys) (hbl : b.length ≤ 1048576) (hzl : zs.length + ys.length ≤ 1048576) :
    Calls Try.prog 7 #[.int .u8 p, v, f, t, .int .u16 s, .int .u16 d] w fun e w' => e = .returned (.bool true) ∧ Below w.heap.size w w' := by
  obtain ⟨er, Z, h1, h2⟩ := rewrite_both p v f t b zs ys s d hs hd w hv hf ht hbl hzl
  have H1 : Hid _ := h1
  have H2 : Hid _ := h2
  have P1 : Hid (Calls Try.prog 32 #[.int .u8 p, v] w fun e w' => e = .returned (.tuple #[.int .u16 (poS p b), .int .u16 (poD p b), .bool (poIs p b)]) ∧ Below w.heap.size w w') := Ports_calls p v b w hv
  have P2 : Hid (∀ W, Below w.heap.size w W → Calls Try.prog 33 #[.int .u8 p, v] W fun e w' => e = .returned (.tuple #[.int .u16 (poS p b), .int .u16 (poD p b), .bool (poIs p b)]) ∧ w' = W) := fun W hW => RPorts_calls p v b W (hv.bytes.later hW)
  obtain ⟨a1, c1, rfl, _, _⟩ := hv.val
  obtain ⟨a2, c2, rfl, _⟩ := hf.val
  obtain ⟨a3, c3, rfl, _⟩ := ht.val
  clear h1 h2 hv hf ht
  generalize poS p b = x1 at *
  generalize poD p b = x2 at *
  generalize poIs p b = x3 at *
  generalize b.length = n1 at *
  generalize zs.length = n2 at *
  generalize ys.length = n3 at *
  go_enter Try.func7, Try.ntmps7
  go_wp2_with fail
  refine Calls.mono P1.out ?_
  rintro _ u1 ⟨rfl, hB1⟩
  go_wp2_with fail
  refine Calls.mono (P2.out u1 hB1) ?_
  rintro _ _ ⟨rfl, rfl⟩
  go_wp2_with fail
  refine Calls.mono (H1.out _ hB1) ?_
  rintro _ u2 ⟨v2, rfl, hv2, hB2⟩
  obtain ⟨a4, c4, rfl, -⟩ := hv2.val
  have hB12 := hB1.trans (hB2.mono hB1.size)
  have HV2 : Hid _ := hv2
  clear P1 P2 H1 hv2
  generalize Z.length = n4 at *
  go_wp2_with fail
  refine Calls.mono (H2.out _ hB12) ?_
  rintro _ u3 ⟨v3, rfl, hv3, hB3⟩
  have hB13 := hB12.trans (hB3.mono hB12.size)
  obtain ⟨a5, c5, e5, -⟩ := hv3.val
  subst e5
  have t1 := (HV2.out.later hB3).text
  have t2 := hv3.text
  clear HV2 hv3 H2 hB3 hB12 hB2 hB1
  generalize strOfNums Z = X at *
  have q1 : (x1 == x1) = true := beq_self_eq_true x1
  have q2 : (x2 == x2) = true := beq_self_eq_true x2
  have q3 : (x3 == x3) = true := beq_self_eq_true x3
  have q4 : (er == er) = true := beq_self_eq_true er
  go_wp2_with fail
  refine Calls.mono (awake_calls6 _) ?_
  rintro _ u4 ⟨rfl, hB4⟩
  go_wp2
  go_ret
  exact ⟨rfl, hB13.trans (hB4.mono hB13.size)⟩

theorem bulk_one {H : Type} (d : DataW H) : 1 ≤ Rows.uptoBulk d := by
  cases d with
  | lit l => cases l <;> simp [Rows.uptoBulk]
  | nil => simp [Rows.uptoBulk]
  | ptr d => simp [Rows.uptoBulk]
  | slice elems spare => simp [Rows.uptoBulk]
  | agg parts => simp [Rows.uptoBulk]
  | iface t d => simp [Rows.uptoBulk]
  | map entries => simp [Rows.uptoBulk]
  | held h => simp [Rows.uptoBulk]
theorem bulk_len {H : Type} (l : List (DataW H)) : l.length ≤ Rows.uptoBulkAll l := by
  induction l with
  | nil => simp [Rows.uptoBulkAll]
  | cons x r ih => have := bulk_one x; simp only [Rows.uptoBulkAll, List.length_cons]; omega

set_option maxRecDepth 100000 in
theorem open_row_bulk {H : Type} {enc : TypeId × Value → H} {W : World} {base : Nat} {v : Value} {d : DataW H} {p : List MemPlace} (hval : Value.okWide Try.prog W .any base 29 v)
    (h : DataW.Trod enc Try.prog W 0 (fun _ => true) true 29 v d p) (hz : ∀ k ∈ d.weights Try.prog 29, k ≤ reachBytes) : ∃ zs, RowC W v zs ∧ zs.length ≤ Rows.uptoBulk d := by
  obtain ⟨zs, hr⟩ := open_row hval h hz
  refine ⟨zs, hr, ?_⟩
  obtain ⟨a, cap, rfl, _⟩ := hr.val
  obtain ⟨fuel, hf⟩ := h
  rcases open_ints Try.underlying29 Try.underlying5 (by kernel_rfl) hf with ⟨hcs, _⟩ | ⟨x, l, c, zs', hcs, _, hl, hm, hzl, hx, hcell, hwz⟩
  · simp [Value.cells] at hcs
    rw [hcs.2.1]
    exact Nat.zero_le _
  · simp [Value.cells] at hcs
    obtain ⟨rfl, _⟩ := Prod.mk.inj hx
    have hzl' : zs'.length = c := by simpa using hzl
    simp only [Rows.uptoBulk]
    have h1 := bulk_len (lits (H := H) .u8 (zs'.take l))
    have h2 : (lits (H := H) .u8 (zs'.take l)).length = l := by simp [lits]; omega
    omega


set_option maxRecDepth 100000 in
theorem segmentRewrites_open {H : Type} {enc : TypeId × Value → H} {W : World} {base : Nat} (v0 : Value) {d0 : DataW H} {p0 : List MemPlace} (v1 : Value) {d1 : DataW H} {p1 : List MemPlace} (v2 : Value) {d2 : DataW H} {p2 : List MemPlace} (v3 : Value) {d3 : DataW H} {p3 : List MemPlace} (v4 : Value) {d4 : DataW H} {p4 : List MemPlace} (v5 : Value) {d5 : DataW H} {p5 : List MemPlace}
    (o0 : Value.okWide Try.prog W .any base 5 v0) (h0 : DataW.Trod enc Try.prog W 0 (fun _ => true) true 5 v0 d0 p0) (z0 : ∀ k ∈ d0.weights Try.prog 5, k ≤ reachBytes)
    (o1 : Value.okWide Try.prog W .any base 29 v1) (h1 : DataW.Trod enc Try.prog W 0 (fun _ => true) true 29 v1 d1 p1) (z1 : ∀ k ∈ d1.weights Try.prog 29, k ≤ reachBytes)
    (o2 : Value.okWide Try.prog W .any base 29 v2) (h2 : DataW.Trod enc Try.prog W 0 (fun _ => true) true 29 v2 d2 p2) (z2 : ∀ k ∈ d2.weights Try.prog 29, k ≤ reachBytes)
    (o3 : Value.okWide Try.prog W .any base 29 v3) (h3 : DataW.Trod enc Try.prog W 0 (fun _ => true) true 29 v3 d3 p3) (z3 : ∀ k ∈ d3.weights Try.prog 29, k ≤ reachBytes)
    (o4 : Value.okWide Try.prog W .any base 28 v4) (h4 : DataW.Trod enc Try.prog W 0 (fun _ => true) true 28 v4 d4 p4) (z4 : ∀ k ∈ d4.weights Try.prog 28, k ≤ reachBytes)
    (o5 : Value.okWide Try.prog W .any base 28 v5) (h5 : DataW.Trod enc Try.prog W 0 (fun _ => true) true 28 v5 d5 p5) (z5 : ∀ k ∈ d5.weights Try.prog 28, k ≤ reachBytes)
    (hk : Rows.uptoBulkAll [d0, d1, d2, d3, d4, d5] ≤ 1048576) :
    Calls Try.prog 7 #[v0, v1, v2, v3, v4, v5] W fun e w' => e = .returned (.bool true) ∧ Below W.heap.size W w' := by
  obtain ⟨p, rfl, _, _, _⟩ := open_int Try.underlying5 o0 h0
  obtain ⟨b, hb, lb⟩ := open_row_bulk o1 h1 z1
  obtain ⟨zs, hz, lz⟩ := open_row_bulk o2 h2 z2
  obtain ⟨ys, hy, ly⟩ := open_row_bulk o3 h3 z3
  obtain ⟨s, rfl, _, _, ws⟩ := open_int Try.underlying28 o4 h4
  obtain ⟨d, rfl, _, _, wd⟩ := open_int Try.underlying28 o5 h5
  have hs := bounds_u16 ws
  have hd := bounds_u16 wd
  simp only [Rows.uptoBulkAll] at hk
  exact segmentRewrites_walk p v1 v2 v3 b zs ys s d hs hd W hb hz.bytes hy.bytes (by omega) (by omega)

end Go.Proofs.Ytnlaomjhnndblaa
