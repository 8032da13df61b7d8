/-
  Ports of both sides. Update of the document for long rows; an append to an own row of bytes, for long rows. Rewrite of the document. The statement SegmentRewrites for every argument of bulk at most 1048576.
-/
import Derived.Test.YtpgnnplpcalbbaaGreatFold33
import Derived.Test.YtpgnnplpcalbbaaGreatFold19
import Derived.Test.YtpgnnplpcalbbaaGreatRows
set_option linter.unusedVariables false
set_option linter.unusedSimpArgs false
namespace Go.Proofs.YtpgnnplpcalbbaaGreat
open Go Go.RowKit Go.Shelf
def poIs (p : Int) (zs : List Int) : Bool := kIs p && decide (4 ≤ zs.length)
def poS (p : Int) (zs : List Int) : Int := if poIs p zs = true then wd2 zs 0 else 0
def poD (p : Int) (zs : List Int) : Int := if poIs p zs = true then wd2 zs 2 else 0
theorem ex_rest2 {o : Oper} {a : Act} {W : World} (k : Nat) {b off len cap : Nat} (hop : o.op = Op.slice 25 (.tmp k) (some (.const (.int .i64 2))) none none) (hk : a.eval (.tmp k) = .slice (some ⟨b, off, none⟩) len cap) (h8 : 4 ≤ len) (hc : len ≤ cap) :
    (execOp a.eval o).run Tryz.prog W = .ok (.value (.slice (some ⟨b, off + 2, none⟩) (len - 2) (cap - 2))) W := by
  have hcst : a.eval (.const (.int .i64 2)) = .int .i64 2 := rfl
  have h1 : (2 : Int) ≤ (len : Int) := by omega
  have h2 : ¬ cap = 2 := by omega
  generalize a.eval = ev at *
  simp [execOp, hop, hk, hcst, go_sem, h1, h2]
set_option maxHeartbeats 2000000 in
set_option maxRecDepth 100000 in
theorem Ports_calls (p : Int) (v : Value) (zs : List Int) (w : World) (h : RowC w v zs) :
    Calls Tryz.prog 200 #[.int .u8 p, v] w fun e w' => e = .returned (.tuple #[.int .u16 (poS p zs), .int .u16 (poD p zs), .bool (poIs p zs)]) ∧ Below w.heap.size w w' := by
  have c0 : Hid _ := checkAt_calls p w
  by_cases hI : poIs p zs = true
  · have e1 : poS p zs = wd2 zs 0 := if_pos hI
    have e2 : poD p zs = wd2 zs 2 := if_pos hI
    rw [e1, e2, hI]
    unfold poIs at hI
    simp only [Bool.and_eq_true, decide_eq_true_eq] at hI
    obtain ⟨hk, h4⟩ := hI
    rw [hk] at c0
    obtain ⟨b, off, cap, hS⟩ := h.rowS (by omega)
    have hv := hS.val
    subst hv
    have q4 : ¬ ((zs.length : Int) < 4) := by omega
    have hroom := hS.room
    have k0 := hS.cell 0 (by omega)
    have k1 := hS.cell 1 (by omega)
    have k2 := hS.cell 2 (by omega)
    have k3 := hS.cell 3 (by omega)
    have W1 : Hid (Calls Tryz.prog 246 #[.slice (some ⟨b, off, none⟩) zs.length cap] w.drew fun e w' => ∃ v, e = .returned v ∧ (v = .int .u16 (wd2 zs 0) ∧ w' = w.drew.drew)) := (wordOf_calls b off zs.length cap (gz zs 0) (gz zs 1) w.drew (by omega) k0 k1 (hS.fit.gz 0) (hS.fit.gz 1)).mono (fun e w' k => ⟨_, k.1, rfl, k.2⟩)
    have W2 : Hid (Calls Tryz.prog 246 #[.slice (some ⟨b, off + 2, none⟩) (zs.length - 2) (cap - 2)] w.drew.drew fun e w' => ∃ v, e = .returned v ∧ (v = .int .u16 (wd2 zs 2) ∧ w' = w.drew.drew.drew)) := (wordOf_calls b (off + 2) (zs.length - 2) (cap - 2) (gz zs 2) (gz zs 3) w.drew.drew (by omega) k2 k3 (hS.fit.gz 2) (hS.fit.gz 3)).mono (fun e w' k => ⟨_, k.1, rfl, k.2⟩)
    obtain ⟨x, hx⟩ : ∃ x, wd2 zs 0 = x := ⟨_, rfl⟩
    obtain ⟨y, hy⟩ : ∃ y, wd2 zs 2 = y := ⟨_, rfl⟩
    rw [hx] at W1 ⊢
    rw [hy] at W2 ⊢
    have HF : Hid (Below w.heap.size w w.drew.drew.drew) := (Below.refl _ w).drew.drew.drew
    clear h hS k0 k1 k2 k3 e1 e2 hx hy hk
    go_enter Tryz.func200, Tryz.ntmps200
    go_wp2_with fail
    refine Calls.mono c0.out ?_
    rintro _ _ ⟨rfl, rfl⟩
    go_wp2_with fail
    refine wp_region_held (S := fun _ => True) (by kernel_rfl) ?_
    show wpAnyH _ _ _ _ _ 8 (Array.replicate 8 false) _ _
    refine take_one (i := 0) (d := some 21) (v := .slice (some ⟨b, off, none⟩) zs.length cap) rfl rfl rfl (by kernel_rfl) (by kernel_rfl) (by kernel_rfl) (fun _ _ d _ _ h => by cases d <;> exact h) (fun W hS => ex_move (.tmp 1) rfl rfl) trivial ?_
    simp only [Act.put, List.setIfInBounds_toArray, List.set_cons_zero, List.set_cons_succ]
    refine take_one (i := 2) (d := some 23) (v := .slice (some ⟨b, off, none⟩) zs.length cap) rfl rfl rfl (by kernel_rfl) (by kernel_rfl) (by kernel_rfl) (fun _ _ d _ _ h => by cases d <;> exact h) (fun W hS => ex_move (.tmp 1) rfl rfl) trivial ?_
    simp only [Act.put, List.setIfInBounds_toArray, List.set_cons_zero, List.set_cons_succ]
    refine take_one (i := 3) (d := some 24) (v := .slice (some ⟨b, off + 2, none⟩) (zs.length - 2) (cap - 2)) rfl rfl rfl (by kernel_rfl) (by kernel_rfl) (by kernel_rfl) (fun _ _ d _ _ h => by cases d <;> exact h) (fun W hS => ex_rest2 23 rfl rfl h4 hroom) trivial ?_
    simp only [Act.put, List.setIfInBounds_toArray, List.set_cons_zero, List.set_cons_succ]
    refine all_one (i := 1) (by kernel_rfl) rfl rfl ?_
    refine wp_call (d := some 22) 246 _ rfl (by kernel_rfl) W1.out ?_
    rintro  _ _ ⟨rfl, rfl⟩
    refine ⟨trivial, ?_⟩
    simp only [Act.put, List.setIfInBounds_toArray, List.set_cons_zero, List.set_cons_succ]
    refine all_one (i := 4) (by kernel_rfl) rfl rfl ?_
    refine wp_call (d := some 25) 246 _ rfl (by kernel_rfl) W2.out ?_
    rintro  _ _ ⟨rfl, rfl⟩
    refine ⟨trivial, ?_⟩
    simp only [Act.put, List.setIfInBounds_toArray, List.set_cons_zero, List.set_cons_succ]
    refine take_one (i := 5) (d := some 4) (v := .int .u16 x) rfl rfl rfl (by kernel_rfl) (by kernel_rfl) (by kernel_rfl) (fun _ _ d _ _ h => by cases d <;> exact h) (fun W hS => ex_assign (.tmp 22) rfl rfl) trivial ?_
    simp only [Act.put, List.setIfInBounds_toArray, List.set_cons_zero, List.set_cons_succ]
    refine take_one (i := 6) (d := some 5) (v := .int .u16 y) rfl rfl rfl (by kernel_rfl) (by kernel_rfl) (by kernel_rfl) (fun _ _ d _ _ h => by cases d <;> exact h) (fun W hS => ex_assign (.tmp 25) rfl rfl) trivial ?_
    simp only [Act.put, List.setIfInBounds_toArray, List.set_cons_zero, List.set_cons_succ]
    refine take_one (i := 7) (d := some 6) (v := .bool true) rfl rfl rfl (by kernel_rfl) (by kernel_rfl) (by kernel_rfl) (fun _ _ d _ _ h => by cases d <;> exact h) (fun W hS => ex_assign (.const (.bool true)) rfl rfl) trivial ?_
    simp only [Act.put, List.setIfInBounds_toArray, List.set_cons_zero, List.set_cons_succ]
    refine wpAnyH_done (by kernel_rfl) ?_ _
    go_wp2
    go_ret3
    exact ⟨rfl, HF.out⟩
  · have hI' : poIs p zs = false := by simpa using hI
    have e1 : poS p zs = 0 := if_neg hI
    have e2 : poD p zs = 0 := if_neg hI
    rw [e1, e2, hI']
    obtain ⟨a, k, rfl, _⟩ := h.val
    have HF : Hid (Below w.heap.size w w) := Below.refl _ w
    clear h hI e1 e2
    cases hk : kIs p
    · rw [hk] at c0
      clear hI' hk
      go_enter Tryz.func200, Tryz.ntmps200
      go_wp2_with fail
      refine Calls.mono c0.out ?_
      rintro _ _ ⟨rfl, rfl⟩
      go_wp2
      go_ret3
      exact ⟨rfl, HF.out⟩
    · rw [hk] at c0
      have hl : zs.length < 4 := by simpa [poIs, hk] using hI'
      have q4 : (zs.length : Int) < 4 := by omega
      clear hI' hk
      go_enter Tryz.func200, Tryz.ntmps200
      go_wp2_with fail
      refine Calls.mono c0.out ?_
      rintro _ _ ⟨rfl, rfl⟩
      go_wp2
      go_ret3
      exact ⟨rfl, HF.out⟩
end Go.Proofs.YtpgnnplpcalbbaaGreat
namespace Go.Proofs.YtpgnnplpcalbbaaGreat
open Go Go.RowKit Go.Shelf
set_option maxHeartbeats 2000000 in
theorem update_wide (was : Int) (hwas : 0 ≤ was ∧ was ≤ 65535) (a a' : Option Addr) (n cap cap' : Nat) (zs ys : List Int) (w : World) (hz : BytesAt w.heap.size w (.slice a n cap) zs) (hy : BytesAt w.heap.size w (.slice a' n cap') ys) (h2 : n % 2 = 0) (hs : n ≤ 524288) :
    Calls Tryz.prog 155 #[.int .u16 was, .slice a n cap, .slice a' n cap'] w fun e w' =>
      e = .returned (.tuple #[.int .u16 (65535 - sumW (sumW (65535 - was) ((wordsL zs).map (fun z => 65535 - z))) (wordsL ys)), .int .i64 0]) ∧ Below w.heap.size w w' := by
  have hn1 : zs.length = n := by obtain ⟨_, _, e, _⟩ := hz.val; cases e; rfl
  have hn2 : ys.length = n := by obtain ⟨_, _, e, _⟩ := hy.val; cases e; rfl
  have hw1 := wordsL_words hz.fit
  have hw2 := wordsL_words hy.fit
  have hl1 : (wordsL zs).length ≤ 262145 := by rw [wordsL_length]; omega
  have hl2 : (wordsL ys).length ≤ 262145 := by rw [wordsL_length]; omega
  have hq1 : zs.length ≤ 524288 := by omega
  have hq2 : ys.length ≤ 524288 := by omega
  clear hn1 hn2
  go_enter Tryz.func155, Tryz.ntmps155
  go_wp2_with fail
  refine (even_yes a a' n cap cap' _ (by omega) h2).mono ?_
  rintro e w' ⟨rfl, rfl⟩
  have hB0 : Below w'.heap.size w' (w'.alloc (.cells #[.int .i64 (65535 - was)] 3)) := (Below.refl _ _).alloc (Nat.le_refl _) _
  go_wp2_with fail
  refine (words_ref a n cap zs _ (hz.later hB0) (by omega)).mono ?_
  rintro e w2 ⟨va, rfl, hva, hB1⟩
  have hB2 := hB0.trans (hB1.mono hB0.size)
  have hvl := own_below (own_lit w' (65535 - was)) hB1
  obtain ⟨aa, capa, rfl, _, _⟩ := own_form hva
  have hsep : ∀ g, (Value.slice aa (wordsL zs).length capa).ownBlock = some g → (Value.slice (some ⟨w'.heap.size, 0, none⟩) 1 1).ownBlock ≠ some g := by
    intro g hg e
    have := (hva.lt g hg).1
    simp [Value.ownBlock] at e
    simp at this
    omega
  have hrow : w2.ownsRow w'.heap.size 3 1 (.slice (some ⟨w'.heap.size, 0, none⟩) 1 1) (1 + 0) (intsV (turnedTo [65535 - was] (wordsL zs) 0)) := hvl
  generalize hbse : (w'.alloc (.cells #[.int .i64 (65535 - was)] 3)).heap.size = B1 at *
  clear hbse hB0 hB1 hvl
  go_wp2_with fail
  go_loopw [8, 10] (fun v i wr => ∃ k : Nat, k ≤ (wordsL zs).length ∧ i = .int .i64 k ∧ wr.ownsRow w'.heap.size 3 1 v (1 + k) (intsV (turnedTo [65535 - was] (wordsL zs) k)) ∧ wr.ownsRow B1 3 1 (.slice aa (wordsL zs).length capa) (wordsL zs).length (intsV (wordsL zs)) ∧ (∀ g, (Value.slice aa (wordsL zs).length capa).ownBlock = some g → v.ownBlock ≠ some g) ∧ Below w'.heap.size w' wr) (fun _ i _ => (wordsL zs).length - (intOf i).toNat)
  case atStart => exact ⟨0, Nat.zero_le _, rfl, hrow, hva, hsep, hB2⟩
  case round =>
    clear hrow hva hsep hB2
    obtain ⟨k, hk, rfl, hrow, hva, hsep, hB⟩ := hrel
    have hsz := hB.size
    by_cases hlt : k < (wordsL zs).length
    · obtain ⟨aa', capa', e, _, hza⟩ := own_form hva
      cases e
      rcases hza with hza | ⟨g, rfl, _, hg, hc⟩
      · omega
      have hx : (wordsL zs)[k]? = some (wordsL zs)[k] := by simp [hlt]
      have hck := hc k (.int .i64 (wordsL zs)[k]) (by rw [intsV, List.getElem?_map, hx]; rfl)
      have hr := hw1 _ (List.mem_of_getElem? hx)
      have hsn := turnedTo_succ [65535 - was] (wordsL zs) k _ hx
      clear hc hx
      generalize (wordsL zs)[k] = x at *
      obtain ⟨v', w1, hrun, hown', hgrow, hbl⟩ := own_int hrow hsz (by omega) (65535 - x) 199
      have H0 : Hid _ := hrun
      have HS : Hid _ := hsn
      have HB : Hid _ := hbl
      clear hrun hsn hbl
      go_wp2_with (at_builtin; refine wpList_append_run rfl _ _ _ _ rfl rfl rfl H0.out ?_; clear H0)
      refine ⟨⟨k + 1, by omega, by simp, ?_, hva.kept hgrow (.inr (fun e => hsep g rfl e.symm)), ?_, hB.grown hgrow hsz (fun j hj => (hrow.lt j hj).1)⟩, by simp [intOf]; omega⟩
      · rw [HS.out]; exact hown'
      · intro g' hg'
        rcases HB.out with e | e
        · rw [e]; exact hsep g' hg'
        · intro e'
          have := e g' e'
          simp [Value.ownBlock] at hg'
          omega
    · obtain rfl : k = (wordsL zs).length := by omega
      go_wp2_with fail
      refine (words_ref a' n cap' ys _ (hy.later hB) (by omega)).mono ?_
      rintro e w3 ⟨vb, rfl, hvb, hB3⟩
      have hrow3 := own_below hrow hB3
      have hB4 := hB.trans (hB3.mono hB.size)
      have hB3s := hB3.size
      obtain ⟨v', w4, hrun, hown', hgrow⟩ := own_join hrow3 hvb (by omega) (by omega) 199
      have hB5 := hB4.grown hgrow (by omega) (fun j hj => (hrow3.lt j hj).1)
      have hww := turnedTo_words [65535 - was] (wordsL zs) (wordsL ys) (wordsL zs).length (fun z hz => by simp at hz; omega) hw1 hw2
      have hlen : (turnedTo [65535 - was] (wordsL zs) (wordsL zs).length ++ wordsL ys).length = 1 + (wordsL zs).length + (wordsL ys).length := by
        rw [List.length_append, turnedTo_length _ _ _ (Nat.le_refl _)]; rfl
      have hr1 := sumW_range _ (65535 - was) (by omega) (turn_words hw1)
      have hr2 := sumW_range _ _ hr1 hw2
      have hadd := added_calls w'.heap.size v' _ hww w4 (by omega) (by rw [hlen]; exact hown')
      rw [turnedTo_all _ (by omega)] at hadd
      clear hww hlen hr1 hown' hgrow hrow3 hvb hrow hva hsep
      generalize ht : sumW (sumW (65535 - was) ((wordsL zs).map (fun z => 65535 - z))) (wordsL ys) = t at *
      have HT : Hid _ := ht
      clear ht
      have HA := calls_hide hadd
      have H0 : Hid _ := hrun
      clear hadd hrun
      go_wp2_with (at_builtin; refine wpList_append_run rfl _ _ _ _ rfl rfl rfl H0.out ?_; clear H0)
      refine (calls_show HA).mono ?_
      rintro e w5 ⟨rfl, rfl⟩
      go_wp2
      go_ret2
      exact ⟨by rw [HT.out]; rfl, hB5⟩
theorem own_bytes_wide {w w0 : World} {base n : Nat} {v : Value} {xs : List Value} (hown : w.ownsRow base 5 1 v n xs) (hbase : base ≤ w.heap.size) {a : Option Addr} {m c : Nat} {zs : List Int} (hb : BytesAt w0.heap.size w (.slice a m c) zs) (hn : n + m ≤ 2000000) (ty : TypeId) :
    ∃ v' w', (Builtin.append_ #[25, 25] ty #[v, .slice a m c]).run Tryz.prog w = .ok v' w' ∧ w'.ownsRow base 5 1 v' (n + m) (xs ++ bytesV zs) ∧ w.grownBy w' v.ownBlock := by
  obtain ⟨_, _, a', c', e, hz⟩ := hb
  cases e
  have hnone : a = none → zs.length = 0 := fun e => by
    rcases hz with hz | ⟨b, off, hz, _⟩
    · exact hz
    · rw [e] at hz; cases hz
  obtain ⟨v', w', h1, h2, h3, _⟩ := own_append elem_u8 (c := c) hown a (bytesV zs) (bytesV_length zs) hnone (fun x hx j u hj => by
      rcases hz with hz | ⟨b, off, hz, _, hc⟩
      · have := (List.getElem?_eq_some_iff.1 hj).1; rw [bytesV_length] at this; omega
      · rw [hx] at hz
        cases hz
        have hjl := (List.getElem?_eq_some_iff.1 hj).1
        rw [bytesV_length] at hjl
        rw [Go.WideShapes.add_plain, hc j hjl]
        rw [bytesV, List.getElem?_map] at hj
        obtain ⟨z, hz, rfl⟩ := Option.map_eq_some_iff.1 hj
        rw [hz]; rfl) (bytesV_one zs) (by unfold maxLen; omega) (by omega) hbase ty
  exact ⟨v', w', h1, h2, h3⟩
theorem OB.wide {base : Nat} {w wx : World} {v u : Value} {zs ys : List Int} (h : OB base w wx v zs) (hs : base ≤ wx.heap.size) (hb : BytesAt wx.heap.size wx u ys) (hl : zs.length + ys.length ≤ 2000000) (ty : TypeId) :
    ∃ v' wy, (Builtin.append_ #[25, 25] ty #[v, u]).run Tryz.prog wx = .ok v' wy ∧ OB base w wy v' (zs ++ ys) ∧ base ≤ wy.heap.size := by
  obtain ⟨a, cap, rfl, _⟩ := hb.val
  obtain ⟨v', wy, hrun, hown, hgr⟩ := own_bytes_wide (w0 := wx) h.own hs hb hl ty
  have hB : Below base wx wy := (Below.refl _ wx).grown hgr hs (fun j hj => (h.own.lt j hj).1)
  refine ⟨v', wy, hrun, ⟨?_, h.bel.trans hB⟩, Nat.le_trans hs hB.size⟩
  rw [List.length_append]
  have e : bytesV (zs ++ ys) = bytesV zs ++ bytesV ys := by simp [bytesV]
  rw [e]
  exact hown
/-- Two rows of bytes behind each other, in memory of their own. -/
theorem joined_wide {W : World} {va vb : Value} {As Bs : List Int} (ha : BytesAt W.heap.size W va As) (hb : BytesAt W.heap.size W vb Bs) (la : As.length + Bs.length ≤ 2000000) :
    ∃ v1 w1 v2 w2, (Builtin.append_ #[25, 25] 25 #[.slice (some ⟨W.heap.size, 0, none⟩) 0 0, va]).run Tryz.prog (W.alloc (.cells #[] 5)) = .ok v1 w1 ∧ (Builtin.append_ #[25, 25] 25 #[v1, vb]).run Tryz.prog w1 = .ok v2 w2 ∧ Below W.heap.size W w1 ∧ OB W.heap.size W w2 v2 (As ++ Bs) := by
  have h0 := ob_empty W
  obtain ⟨v1, w1, r1, o1, s1⟩ := h0.wide h0.bel.size (ha.later h0.bel) (by simp; omega) 25
  obtain ⟨v2, w2, r2, o2, s2⟩ := o1.wide s1 (hb.later o1.bel) (by simp; omega) 25
  exact ⟨v1, w1, v2, w2, r1, r2, o1.bel, by simpa using o2⟩
/-- b[4:] -/
def from4 (b off n cap : Nat) : Value := if cap = 4 then .slice (some ⟨b, off, none⟩) 0 0 else .slice (some ⟨b, off + 4, none⟩) (n - 4) (cap - 4)
theorem ex_from4 {o : Oper} {a : Act} {W : World} (k : Nat) {b off n cap : Nat} (hop : o.op = Op.slice 25 (.tmp k) (some (.const (.int .i64 4))) none none) (hk : a.eval (.tmp k) = .slice (some ⟨b, off, none⟩) n cap) (h1 : 4 ≤ n) (h2 : n ≤ cap) (hev : a.eval (.const (.int .i64 4)) = .int .i64 4) :
    (execOp a.eval o).run Tryz.prog W = .ok (.value (from4 b off n cap)) W := by
  have q1 : (4 : Int) ≤ (n : Int) := by omega
  have q2 : (n : Int) ≤ (cap : Int) := by omega
  generalize a.eval = ev at *
  unfold from4
  by_cases hc : cap = 4
  · obtain rfl : n = 4 := by omega
    subst hc
    simp [execOp, hop, hk, hev, go_sem]
  · rw [if_neg hc]
    simp [execOp, hop, hk, hev, go_sem, q1, q2, hc]
theorem from4_slc (b off n cap : Nat) : ∃ x m c, from4 b off n cap = .slice x m c := by
  unfold from4
  split <;> exact ⟨_, _, _, rfl⟩
theorem from4_bytes {W : World} {b off cap : Nat} {zs : List Int} (h : BytesAt W.heap.size W (.slice (some ⟨b, off, none⟩) zs.length cap) zs) (h1 : 4 ≤ zs.length) (h2 : zs.length ≤ cap) : BytesAt W.heap.size W (from4 b off zs.length cap) (zs.drop 4) := by
  obtain ⟨hf, hl, a, c, e, hz⟩ := h
  cases e
  have hfd : Fit (zs.drop 4) := fun z hz => hf z (List.mem_of_mem_drop hz)
  rcases hz with hz | ⟨b', off', e, hb, hc⟩
  · omega
  cases e
  unfold from4
  by_cases hcap : cap = 4
  · rw [if_pos hcap]
    have e0 : zs.drop 4 = [] := List.drop_eq_nil_of_le (by omega)
    rw [e0]
    exact ⟨fun z hz => by simp at hz, by simp, _, _, rfl, .inl rfl⟩
  · rw [if_neg hcap]
    refine ⟨hfd, by rw [List.length_drop]; omega, some ⟨b, off + 4, none⟩, cap - 4, by rw [List.length_drop], .inr ⟨b, off + 4, rfl, hb, fun j hj => ?_⟩⟩
    rw [List.length_drop] at hj
    have := hc (4 + j) (by omega)
    rw [List.getElem?_drop, Nat.add_assoc]
    exact this
end Go.Proofs.YtpgnnplpcalbbaaGreat
namespace Go.Proofs.YtpgnnplpcalbbaaGreat
open Go Go.RowKit Go.Shelf
theorem fit_take {zs : List Int} (h : Fit zs) (n : Nat) : Fit (zs.take n) := fun z hz => h z (List.mem_of_mem_take hz)
theorem take4_bytes {W : World} {b off cap : Nat} {zs : List Int} (h : BytesAt W.heap.size W (.slice (some ⟨b, off, none⟩) zs.length cap) zs) (h1 : 4 ≤ zs.length) : BytesAt W.heap.size W (.slice (some ⟨b, off, none⟩) 4 cap) (zs.take 4) := by
  obtain ⟨hf, hl, a, c, e, hz⟩ := h
  cases e
  have e4 : (zs.take 4).length = 4 := by rw [List.length_take]; omega
  rcases hz with hz | ⟨b', off', e, hb, hc⟩
  · omega
  cases e
  refine ⟨fit_take hf 4, by omega, some ⟨b, off, none⟩, cap, by rw [e4], .inr ⟨b, off, rfl, hb, fun j hj => ?_⟩⟩
  rw [e4] at hj
  rw [List.getElem?_take_of_lt hj]
  exact hc j (by omega)
theorem laid_two (zs : List Int) (o : Nat) (x : Int) (h : o + 2 ≤ zs.length) : (zs.set o (x / 256)).set (o + 1) (x % 256) = laid zs o (w2 x) := by
  unfold laid w2
  apply List.ext_getElem?
  intro i
  simp only [List.getElem?_set, List.length_set]
  rcases Nat.lt_trichotomy i o with hi | hi | hi
  · rw [if_neg (by omega), if_neg (by omega), List.append_assoc, List.getElem?_append_left (by simp; omega), List.getElem?_take_of_lt hi]
  · subst hi
    rw [if_neg (by omega), if_pos rfl, if_pos (by omega), List.append_assoc, List.getElem?_append_right (by simp; omega)]
    simp
    rw [Nat.min_eq_left (by omega)]
    simp
  · by_cases h1 : i = o + 1
    · subst h1
      rw [if_pos rfl, if_pos (by omega), List.append_assoc, List.getElem?_append_right (by simp; omega)]
      simp
      rw [Nat.min_eq_left (by omega)]
      simp
    · rw [if_neg (by omega), if_neg (by omega), List.getElem?_append_right (by simp; omega)]
      simp
      congr 1
      omega
end Go.Proofs.YtpgnnplpcalbbaaGreat
namespace Go.Proofs.YtpgnnplpcalbbaaGreat
open Go Go.RowKit Go.Shelf Go.ChangeShapes Go.WideShapes Go.ChangeAt
theorem rw0_fit {b : List Int} (fb : Fit b) {s d : Int} (hs : 0 ≤ s ∧ s ≤ 65535) (hd : 0 ≤ d ∧ d ≤ 65535) : Fit (rw0 b s d) := by
  unfold rw0
  exact (wbL_fit (xs := [s, d]) (fun z hz => by simp at hz; rcases hz with rfl | rfl <;> omega)).append (fun z hz => fb z (List.mem_of_mem_drop hz))
theorem rwL_ok (p : Int) {b zs ys : List Int} (hk : kIs p = true) (fb : Fit b) (fz : Fit zs) (fy : Fit ys) (hb : 4 ≤ b.length) {s d : Int} (hs : 0 ≤ s ∧ s ≤ 65535) (hd : 0 ≤ d ∧ d ≤ 65535) : Fit (rwL p b zs ys s d) ∧ (rwL p b zs ys s d).length = b.length := by
  have h0 := rw0_fit fb hs hd
  have hl := rw0_length hb s d
  have hU := upd_range (upd_range (wd2_range fb (kAt p)) fz fy) (fit_take fb 4) (wbL_fit (xs := [s, d]) (fun z hz => by simp at hz; rcases hz with rfl | rfl <;> omega))
  unfold rwL
  split
  · exact ⟨h0, hl⟩
  · rename_i hn
    unfold rwC
    rw [if_neg hn]
    generalize upd (upd (wd2 b (kAt p)) zs ys) (b.take 4) (wbL [s, d]) = C at *
    unfold ckP
    split
    · split
      · exact ⟨h0, hl⟩
      · exact ⟨laid_fit h0 (w2_fit (nz_range hU)) _, by rw [show layO (rw0 b s d) (kAt p) (some (nz C)) = laid (rw0 b s d) (kAt p) (w2 (nz C)) from rfl, laid_length _ (by rw [hl]; simp [w2]; omega), hl]⟩
    · exact ⟨laid_fit h0 (w2_fit hU) _, by rw [show layO (rw0 b s d) (kAt p) (some C) = laid (rw0 b s d) (kAt p) (w2 C) from rfl, laid_length _ (by rw [hl]; simp [w2]; omega), hl]⟩
/-- What both sides answer. -/
def RwQ (w : World) (er : Int) (Z : List Int) (e : Ending) (w' : World) : Prop := ∃ v, e = .returned (.tuple #[v, .int .i64 er]) ∧ BytesAt w'.heap.size w' v Z ∧ Below w.heap.size w w'
theorem RwP.bytes {w w' : World} {n : Nat} {er : Int} {L : List Int} {e : Ending} (h : RwP w n er L e w') (fL : Fit L) (lL : L.length = n) (hn : n ≤ 140737488351232) : RwQ w er (if er = 0 then L else []) e w' := by
  obtain ⟨h1, h2, h3⟩ := h
  by_cases h0 : er = 0
  · obtain ⟨g, k, e1, e2, e3, e4⟩ := h2 h0
    rw [if_pos h0, h0]
    exact ⟨_, e1, e4.all fL (by omega) n k lL.symm, h3⟩
  · rw [if_neg h0]
    exact ⟨_, h1 h0, BytesAt.none w', h3⟩
theorem bulk_one {H : Type} (d : DataW H) : 1 ≤ Rows.uptoBulk d := by
  cases d with
  | lit l => cases l <;> simp [Rows.uptoBulk]
  | nil => simp [Rows.uptoBulk]
  | ptr d => simp [Rows.uptoBulk]
  | slice elems spare => simp [Rows.uptoBulk]
  | agg parts => simp [Rows.uptoBulk]
  | iface t d => simp [Rows.uptoBulk]
  | map entries => simp [Rows.uptoBulk]
  | held h => simp [Rows.uptoBulk]
theorem bulk_len {H : Type} (l : List (DataW H)) : l.length ≤ Rows.uptoBulkAll l := by
  induction l with
  | nil => simp [Rows.uptoBulkAll]
  | cons x r ih => have := bulk_one x; simp only [Rows.uptoBulkAll, List.length_cons]; omega
set_option maxRecDepth 100000 in
theorem open_row_bulk {H : Type} {enc : TypeId × Value → H} {W : World} {base : Nat} {v : Value} {d : DataW H} {p : List MemPlace} (hval : Value.okWide Tryz.prog W .any base 25 v)
    (h : DataW.Trod enc Tryz.prog W 0 (fun _ => true) true 25 v d p) (hz : ∀ k ∈ d.weights Tryz.prog 25, k ≤ reachBytes) : ∃ zs, RowC W v zs ∧ zs.length ≤ Rows.uptoBulk d := by
  obtain ⟨zs, hr⟩ := open_row hval h hz
  refine ⟨zs, hr, ?_⟩
  obtain ⟨a, cap, rfl, _⟩ := hr.val
  obtain ⟨fuel, hf⟩ := h
  rcases open_ints Tryz.underlying25 Tryz.underlying5 (by kernel_rfl) hf with ⟨hcs, _⟩ | ⟨x, l, c, zs', hcs, _, hl, hm, hzl, hx, hcell, hwz⟩
  · simp [Value.cells] at hcs
    rw [hcs.2.1]
    exact Nat.zero_le _
  · simp [Value.cells] at hcs
    obtain ⟨rfl, _⟩ := Prod.mk.inj hx
    have hzl' : zs'.length = c := by simpa using hzl
    simp only [Rows.uptoBulk]
    have h1 := bulk_len (lits (H := H) .u8 (zs'.take l))
    have h2 : (lits (H := H) .u8 (zs'.take l)).length = l := by simp [lits]; omega
    omega
end Go.Proofs.YtpgnnplpcalbbaaGreat
