/-
  The fragments of the program, as an iterator.
-/
import Derived.Test.YtackllcfnlhkpaaVa5
namespace Go.Proofs.Ytackllcfnlhkpaa
open Go Go.RowKit Go.Shelf
set_option linter.unusedVariables false
set_option linter.unusedSimpArgs false
attribute [local go_sem] Oper.semAt_some

theorem space_calls (v : Value) (zs : List Int) (mtu : Nat) (w : World) (h : RowC w v zs) (hm : mtu ≤ 65535) :
    Calls Try.prog 26 #[v, .int .i64 mtu] w fun e w' => e = .returned (.int .i64 ((mtu : Int) - 20 - (zs.length : Int))) ∧ Below w.heap.size w w' := by
  obtain ⟨_, hl, a, cap, rfl, _⟩ := h
  have hB := Below.refl w.heap.size w
  generalize zs.length = N at *
  go_enter Try.func26, Try.ntmps26
  go_wp2
  go_ret
  exact ⟨rfl, hB⟩
theorem fragments_calls (f : Fd) (mf : Bool) (off : Int) (so sb : Value) (mtu : Int) (w : World) :
    Calls Try.prog 22 #[VV f mf off so sb, .int .i64 mtu] w fun e w' => e = .returned (.func (.func 29) #[] #[.pointer (some ⟨w.heap.size, 0, none⟩), .pointer (some ⟨w.heap.size + 1, 0, none⟩)]) ∧ w'.heap[w.heap.size]? = some (BV f mf off so sb) ∧ w'.heap[w.heap.size + 1]? = some (.cells #[.int .i64 mtu] 3) ∧ Below w.heap.size w w' ∧ w'.heap.size = w.heap.size + 2 := by
  have h1 := blk_alloc (blk_new w (.cells (vC f mf off so sb).toArray 27)) (.cells #[.int .i64 mtu] 3)
  have h2 := blk_new (w.alloc (.cells (vC f mf off so sb).toArray 27)) (.cells #[.int .i64 mtu] 3)
  rw [show (w.alloc (.cells (vC f mf off so sb).toArray 27)).heap.size = w.heap.size + 1 by simp] at h2
  have hB := ((Below.refl w.heap.size w).alloc (Nat.le_refl _) (.cells (vC f mf off so sb).toArray 27)).alloc (by simp) (.cells #[.int .i64 mtu] 3)
  have hs : ((w.alloc (.cells (vC f mf off so sb).toArray 27)).alloc (.cells #[.int .i64 mtu] 3)).heap.size = w.heap.size + 2 := by simp
  have H1 : Hid _ := h1
  have H2 : Hid _ := h2
  have HB : Hid _ := hB
  have HS : Hid _ := hs
  clear h1 h2 hB hs
  go_enter Try.func22, Try.ntmps22
  go_wp2
  go_ret
  exact ⟨rfl, H1.out, H2.out, HB.out, HS.out⟩

/-- The memory of the iterator, between two rounds. -/
structure ItM (f : Fd) (mf : Bool) (R : Nat → Prop) (w W : World) (lb : Nat) (lv : Value) (later : List Int) (O : Nat → Prop) (of : Int) (o b : List Int) (so sb : Value) (A : World) : Prop where
  own : ∀ c, O c → ¬ R c ∧ c < A.heap.size
  rd : ∀ c, R c → A.heap[c]? = w.heap[c]?
  size : W.heap.size ≤ A.heap.size
  lo : W.heap.size ≤ lb
  nl : ¬ O lb
  box : A.heap[lb]? = some (BV f mf of so sb)
  bo : BS (fun c => R c ∨ (W.heap.size ≤ c ∧ ¬ O c ∧ c ≠ lb)) A so o
  bb : BS (fun c => R c ∨ (W.heap.size ≤ c ∧ ¬ O c ∧ c ≠ lb)) A sb b
  bl : BS (fun c => R c ∨ (W.heap.size ≤ c ∧ ¬ O c ∧ c ≠ lb)) A lv later
section
variable {f : Fd} {mf : Bool} {R : Nat → Prop} {w W : World} {lb : Nat} {lv : Value} {later : List Int} {O : Nat → Prop} {of : Int} {o b : List Int} {so sb : Value} {A B : World}
theorem ItM.on (h : ItM f mf R w W lb lv later O of o b so sb A) (hw : w.heap.size ≤ W.heap.size) (hR : ∀ c, R c → c < w.heap.size) (hb : Below A.heap.size A B) : ItM f mf R w W lb lv later O of o b so sb B :=
  ⟨fun c hc => ⟨(h.own c hc).1, Nat.lt_of_lt_of_le (h.own c hc).2 hb.size⟩, fun c hc => (hb.block c (Nat.lt_of_lt_of_le (hR c hc) (Nat.le_trans hw h.size))).trans (h.rd c hc), Nat.le_trans h.size hb.size, h.lo, h.nl, blk_on h.box hb, h.bo.on hb, h.bb.on hb, h.bl.on hb⟩
theorem ItM.round {O' : Nat → Prop} (h : ItM f mf R w W lb lv later O of o b so sb A) (hw : w.heap.size ≤ W.heap.size) (hR : ∀ c, R c → c < w.heap.size) (hs : Sep O A B) (hO : ∀ c, O' c → c < B.heap.size ∧ (O c ∨ A.heap.size ≤ c)) : ItM f mf R w W lb lv later O' of o b so sb B := by
  have hRA : ∀ c, R c → c < A.heap.size := fun c hc => Nat.lt_of_lt_of_le (hR c hc) (Nat.le_trans hw h.size)
  have hRO : ∀ c, R c → ¬ O c := fun c hc ho => (h.own c ho).1 hc
  have hlb := (Array.getElem?_eq_some_iff.1 h.box).1
  have key : ∀ {v : Value} {zs : List Int}, BS (fun c => R c ∨ (W.heap.size ≤ c ∧ ¬ O c ∧ c ≠ lb)) A v zs → BS (fun c => R c ∨ (W.heap.size ≤ c ∧ ¬ O' c ∧ c ≠ lb)) B v zs := fun hz => by
    have h2 := hz.mono (S' := fun c => c < A.heap.size ∧ (R c ∨ (W.heap.size ≤ c ∧ ¬ O c ∧ c ≠ lb))) (fun c hc hS => ⟨hc, hS⟩)
    have h3 := h2.sep hs (fun c hc ho => by
      rcases hc.2 with h1 | h1
      · exact hRO c h1 ho
      · exact h1.2.1 ho)
    refine h3.mono (fun c _ hc => ?_)
    rcases hc.2 with h1 | h1
    · exact .inl h1
    · refine .inr ⟨h1.1, fun ho => ?_, h1.2.2⟩
      rcases (hO c ho).2 with h4 | h4
      · exact h1.2.1 h4
      · have := hc.1; omega
  refine ⟨fun c hc => ⟨fun hr => ?_, (hO c hc).1⟩, fun c hc => (hs.same c (hRA c hc) (hRO c hc)).trans (h.rd c hc), Nat.le_trans h.size hs.size, h.lo, fun ho => ?_, hs.blk h.box h.nl, key h.bo, key h.bb, key h.bl⟩
  · rcases (hO c hc).2 with h4 | h4
    · exact (h.own c h4).1 hr
    · have := hRA c hr; omega
  · rcases (hO lb ho).2 with h4 | h4
    · exact h.nl h4
    · omega
theorem ItM.put {of' : Int} {o' b' : List Int} {so' sb' : Value} (h : ItM f mf R w W lb lv later O of o b so sb A) (hw : w.heap.size ≤ W.heap.size) (hR : ∀ c, R c → c < w.heap.size) (ho : Only lb A B) (hb : B.heap[lb]? = some (BV f mf of' so' sb'))
    (h1 : BS (fun c => R c ∨ (W.heap.size ≤ c ∧ ¬ O c ∧ c ≠ lb)) A so' o') (h2 : BS (fun c => R c ∨ (W.heap.size ≤ c ∧ ¬ O c ∧ c ≠ lb)) A sb' b') : ItM f mf R w W lb lv later O of' o' b' so' sb' B := by
  have hlo := h.lo
  have hs : Sep (fun c => c = lb) A B := Sep.of_only ho rfl
  have hne : ∀ c, (R c ∨ (W.heap.size ≤ c ∧ ¬ O c ∧ c ≠ lb)) → ¬ c = lb := fun c hc e => by
    rcases hc with hc | hc
    · have := hR c hc; omega
    · exact hc.2.2 e
  exact ⟨fun c hc => ⟨(h.own c hc).1, by rw [ho.size]; exact (h.own c hc).2⟩, fun c hc => (ho.other c (fun e => by have := hR c hc; omega)).trans (h.rd c hc), by rw [ho.size]; exact h.size, h.lo, h.nl, hb, h1.sep hs hne, h2.sep hs hne, h.bl.sep hs hne⟩
theorem ItM.frag (h : ItM f mf R w W lb lv later O of o b so sb A) {v : Value} {zs : List Int} (hz : BS (fun c => R c ∨ (W.heap.size ≤ c ∧ ¬ O c ∧ c ≠ lb)) A v zs) : BS (fun c => ¬ O c) A v zs :=
  hz.mono (fun c _ hc ho => by
    rcases hc with hc | hc
    · exact (h.own c ho).1 hc
    · exact hc.2.1 ho)
end
theorem drop_at {α : Type} {L : List α} {k : Nat} {x : α} {r : List α} (h : L.drop k = x :: r) : L[k]? = some x ∧ L.drop (k + 1) = r ∧ k < L.length := by
  have h1 : (L.drop k)[0]? = some x := by rw [h]; rfl
  rw [List.getElem?_drop, Nat.add_zero] at h1
  refine ⟨h1, ?_, (List.getElem?_eq_some_iff.1 h1).1⟩
  rw [← List.drop_drop, h]
  rfl

set_option maxRecDepth 100000 in
set_option maxHeartbeats 8000000 in
theorem frags1_gives (f : Fd) (mf : Bool) (off : Int) (so sb : Value) (opts body : List Int) (mtu vb mb : Nat) (R : Nat → Prop) (w : World)
    (hvb : w.heap[vb]? = some (BV f mf off so sb)) (hmb : w.heap[mb]? = some (.cells #[.int .i64 mtu] 3)) (hRl : ∀ c, R c → c < w.heap.size) (hRv : R vb) (hRm : R mb) (hso : BS R w so opts) (hsb : BS R w sb body)
    (hm : 68 ≤ mtu) (hm2 : mtu ≤ 65535) (hno : opts.length ≤ 40) (hoff : 0 ≤ off) (hob : off + (body.length : Int) ≤ 100000) :
    GivesO Try.prog 29 #[.pointer (some ⟨vb, 0, none⟩), .pointer (some ⟨mb, 0, none⟩)] (frs mtu (copiedL opts) mf body.length off opts body).length (FragX f (frs mtu (copiedL opts) mf body.length off opts body)) R w := by
  intro l J Z W O hWw hWR hO hJ hY h0 n
  refine callsIn_wide.2 ((callsIn_wide (n := 9)).1 ?_)
  have hvW : W.heap[vb]? = some (BV f mf off so sb) := (hWR vb hRv).trans hvb
  have hmW : W.heap[mb]? = some (.cells #[.int .i64 mtu] 3) := (hWR mb hRm).trans hmb
  have hsoW : BS R W so opts := hso.same hWw (fun c hc => hWR c hc)
  have hsbW : BS R W sb body := hsb.same hWw (fun c hc => hWR c hc)
  have HCP : Hid (∀ X, RowC X so opts → Calls Try.prog 17 #[so] X fun e w' => ∃ u, e = .returned u ∧ (BS (fun b => X.heap.size ≤ b) w' u (copiedL opts) ∧ Below X.heap.size X w')) := fun X hX => (Copied_calls so opts X hX (by omega)).mono (fun e w' h => h)
  have hcl := copiedL_length opts hno
  have hslo : ∃ x n m, so = .slice x n m := by obtain ⟨_, _, a, cap, e, _⟩ := hso.row; exact ⟨_, _, _, e⟩
  have h1so := hso.one
  have h1sb := hsb.one
  generalize copiedL opts = later at *
  generalize hL : frs mtu later mf body.length off opts body = L at *
  have HL : Hid _ := hL
  have HVW : Hid (W.heap[vb]? = some (BV f mf off so sb)) := hvW
  have HMB : Hid (w.heap[mb]? = some (.cells #[.int .i64 mtu] 3)) := hmb
  have HSO : Hid (BS R W so opts) := hsoW
  have HSB : Hid (BS R W sb body) := hsbW
  have HOO : Hid _ := hO
  have HJ : Hid _ := hJ
  have HY : Hid _ := hY
  have HWR : Hid _ := hWR
  have HRL : Hid _ := hRl
  have HRM : Hid (R mb) := hRm
  clear hL hvb hmb hso hsb hvW hmW hsoW hsbW hO hJ hY hWR hRl hRm
  refine callsIn_of_wp Try.func29 rfl trivial ?_ rfl
  simp only [Try.ntmps29, List.size_toArray, List.length_cons, List.length_nil, Nat.reduceAdd, Nat.reduceSub, Array.replicate_succ, Array.replicate_zero, List.push_toArray, List.append_toArray, List.nil_append, List.cons_append]
  gi_wp2_with fail
  refine wpIn_wide.2 ?_
  refine region_mid (fun a0 a' w' => ∃ lb lv, a' = ((((((a0.put (some 8) (VV f mf off so sb)).put (some 9) (.pointer (some ⟨vb, 15, none⟩))).put (some 10) (so)).put (some 11) (lv)).put (some 4) (.pointer (some ⟨lb, 0, none⟩))).put (some 5) (lv)) ∧ W.heap.size ≤ lb ∧ w'.heap[lb]? = some (BV f mf off so sb) ∧ BS (fun c => W.heap.size ≤ c ∧ c ≠ lb) w' lv later ∧ Below W.heap.size W w') ?_ ?_
  · skip
    refine wp_region_held (S := fun X => X.heap[vb]? = some (BV f mf off so sb) ∧ Below W.heap.size W X) (by kernel_rfl) ?_
    show wpAnyH _ _ _ _ _ 7 (Array.replicate 7 false) _ _
    have hs0 : W.drew.heap[vb]? = some (BV f mf off so sb) ∧ Below W.heap.size W W.drew := ⟨HVW.out, (Below.refl _ W).drew⟩
    refine take_one (i := 0) (d := some 8) (v := VV f mf off so sb) rfl rfl rfl (by kernel_rfl) (by kernel_rfl) (by kernel_rfl) (fun _ _ _ _ _ h => h.elim) (fun W hS => ex_loadA (.tmp 1) 27 rfl rfl (vb_load hS.1)) hs0 ?_
    simp only [Act.put, List.setIfInBounds_toArray, List.set_cons_zero, List.set_cons_succ]
    refine take_one (i := 1) (d := some 9) (v := .pointer (some ⟨vb, 15, none⟩)) rfl rfl rfl (by kernel_rfl) (by kernel_rfl) (by kernel_rfl) (fun _ _ _ _ _ h => h.elim) (fun W hS => by kernel_rfl) hs0 ?_
    simp only [Act.put, List.setIfInBounds_toArray, List.set_cons_zero, List.set_cons_succ]
    refine take_one (i := 2) (d := some 10) (v := so) rfl rfl rfl (by kernel_rfl) (by kernel_rfl) (by kernel_rfl) (fun _ _ _ _ _ h => h.elim) (fun W hS => ex_load 9 rfl rfl (vb15 hS.1) hslo) hs0 ?_
    simp only [Act.put, List.setIfInBounds_toArray, List.set_cons_zero, List.set_cons_succ]
    refine all_two (i1 := 3) (i2 := 4) (by kernel_rfl) rfl rfl rfl rfl ?_ ?_
    · refine wp_call (d := some 11) 17 _ rfl (by kernel_rfl) (HCP.out _ (HSO.out.row.on hs0.2)) ?_
      rintro lv w2 ⟨hbs, hbel⟩
      have hb2 : Below W.heap.size W w2 := hs0.2.trans (hbel.mono hs0.2.size)
      have hv2 : w2.heap[vb]? = some (BV f mf off so sb) := blk_on hs0.1 hbel
      refine ⟨⟨hv2, hb2⟩, ?_⟩
      simp only [Act.put, List.setIfInBounds_toArray, List.set_cons_zero, List.set_cons_succ]
      obtain ⟨w3, hst, hbx, hB3, hs3⟩ := vb_new w2 f mf off h1so h1sb
      have hba := (Below.refl w2.heap.size w2).alloc (Nat.le_refl _) (.cells zeroV.toArray 27)
      refine all_one (i := 4) (by kernel_rfl) rfl rfl ?_
      refine wp_allocA (d := some 4) 27 rfl rfl (v := .pointer (some ⟨w2.heap.size, 0, none⟩)) (w2 := w2.alloc (.cells zeroV.toArray 27)) (by kernel_rfl) ⟨⟨blk_on hv2 hba, hb2.trans (hba.mono hb2.size)⟩, ?_⟩
      simp only [Act.put, List.setIfInBounds_toArray, List.set_cons_zero, List.set_cons_succ]
      refine all_one (i := 5) (by kernel_rfl) rfl rfl ?_
      refine wp_storeA (.tmp 4) (.tmp 8) 27 rfl rfl rfl rfl hst ⟨⟨blk_on hv2 hB3, hb2.trans (hB3.mono hb2.size)⟩, ?_⟩
      refine take_one (i := 6) (d := some 5) (v := lv) rfl rfl rfl (by kernel_rfl) (by kernel_rfl) (by kernel_rfl) (fun _ _ _ _ _ h => h.elim) (fun W hS => by kernel_rfl) ⟨blk_on hv2 hB3, hb2.trans (hB3.mono hb2.size)⟩ ?_
      simp only [Act.put, List.setIfInBounds_toArray, List.set_cons_zero, List.set_cons_succ]
      refine wpAnyH_done (by kernel_rfl) ?_ _
      refine ⟨w2.heap.size, lv, rfl, hb2.size, hbx, ((hbs.mono (fun c hc h => ⟨Nat.le_trans hs0.2.size h, ?_⟩)).on hB3), hb2.trans (hB3.mono hb2.size)⟩
      omega
    · have hba := (Below.refl W.drew.heap.size W.drew).alloc (Nat.le_refl _) (.cells zeroV.toArray 27)
      have hv1 : (W.drew.alloc (.cells zeroV.toArray 27)).heap[vb]? = some (BV f mf off so sb) := blk_on hs0.1 hba
      have hb1 : Below W.heap.size W (W.drew.alloc (.cells zeroV.toArray 27)) := hs0.2.trans (hba.mono hs0.2.size)
      have hbn := blk_new W.drew (.cells zeroV.toArray 27)
      have hsz1 : (W.drew.alloc (.cells zeroV.toArray 27)).heap.size = W.heap.size + 1 := by simp
      refine wp_allocA (d := some 4) 27 rfl rfl (v := .pointer (some ⟨W.drew.heap.size, 0, none⟩)) (w2 := W.drew.alloc (.cells zeroV.toArray 27)) (by kernel_rfl) ⟨⟨hv1, hb1⟩, ?_⟩
      simp only [Act.put, List.setIfInBounds_toArray, List.set_cons_zero, List.set_cons_succ]
      generalize W.drew.alloc (.cells zeroV.toArray 27) = w1 at *
      refine all_one (i := 3) (by kernel_rfl) rfl rfl ?_
      refine wp_call (d := some 11) 17 _ rfl (by kernel_rfl) (HCP.out _ (HSO.out.row.on hb1)) ?_
      rintro lv w2 ⟨hbs, hbel⟩
      have hb2 : Below W.heap.size W w2 := hb1.trans (hbel.mono hb1.size)
      have hv2 : w2.heap[vb]? = some (BV f mf off so sb) := blk_on hv1 hbel
      have hn2 := blk_on hbn hbel
      refine ⟨⟨hv2, hb2⟩, ?_⟩
      simp only [Act.put, List.setIfInBounds_toArray, List.set_cons_zero, List.set_cons_succ]
      obtain ⟨w3, hst, hbx, hon⟩ := box_store Try.sizeOf27 hn2 rfl (vC f mf off so sb) rfl (vC_one f mf off h1so h1sb)
      have hB3 : Below W.heap.size W w3 := hb2.trans (hon.below (Nat.le_refl _))
      have hv3 : w3.heap[vb]? = some (BV f mf off so sb) := (hon.other vb (by have := (Array.getElem?_eq_some_iff.1 HVW.out).1; show vb ≠ W.heap.size; omega)).trans hv2
      refine all_one (i := 5) (by kernel_rfl) rfl rfl ?_
      refine wp_storeA (.tmp 4) (.tmp 8) 27 rfl rfl rfl rfl hst ⟨⟨hv3, hB3⟩, ?_⟩
      refine take_one (i := 6) (d := some 5) (v := lv) rfl rfl rfl (by kernel_rfl) (by kernel_rfl) (by kernel_rfl) (fun _ _ _ _ _ h => h.elim) (fun W hS => by kernel_rfl) ⟨hv3, hB3⟩ ?_
      simp only [Act.put, List.setIfInBounds_toArray, List.set_cons_zero, List.set_cons_succ]
      refine wpAnyH_done (by kernel_rfl) ?_ _
      refine ⟨W.heap.size, lv, rfl, Nat.le_refl _, hbx, ?_, hB3⟩
      refine ((hbs.mono (S' := fun c => W.heap.size ≤ c ∧ c ≠ W.heap.size) (fun c hc h => ?_)).sep (Sep.of_only (O := fun c => c = W.heap.size) hon rfl) (fun c hc e => hc.2 e))
      constructor <;> omega
  · rintro a' w1 ⟨lb, lv, rfl, hlb, hbx, hbl, hB1⟩
    simp only [Act.put, List.setIfInBounds_toArray, List.set_cons_zero, List.set_cons_succ]
    have hsz1 := hB1.size
    have hIt : ItM f mf R w W lb lv later O off opts body so sb w1 := by
      refine ⟨fun c hc => ⟨(HOO.out c hc).1, Nat.lt_of_lt_of_le (HOO.out c hc).2 hsz1⟩, fun c hc => (hB1.block c (Nat.lt_of_lt_of_le (HRL.out c hc) hWw)).trans (HWR.out c hc), hsz1, hlb, fun ho => by have := (HOO.out lb ho).2; omega, hbx, ?_, ?_, ?_⟩
      · exact (HSO.out.on hB1).mono (fun c _ hc => .inl hc)
      · exact (HSB.out.on hB1).mono (fun c _ hc => .inl hc)
      · exact hbl.mono (fun c _ hc => .inr ⟨hc.1, fun ho => by have := (HOO.out c ho).2; omega, hc.2⟩)
    have hJ1 : J 0 O w1 := HJ.out 0 O W w1 h0 (Sep.of_below hB1)
    have HIT : Hid _ := hIt
    have HJ1 : Hid _ := hJ1
    have HMR : Hid (∀ X : World, (∀ c, R c → X.heap[c]? = w.heap[c]?) → X.cell? ⟨mb, 0, none⟩ = some (.int .i64 mtu)) := fun X hX => blk_cell (c := [.int .i64 mtu]) ((hX mb HRM.out).trans HMB.out) rfl
    clear hIt hJ1 hbx hbl hB1 h0 HSO HSB HVW HCP
    gi_wp2_with fail
    gi_loopw [] (fun wr => ∃ (k : Nat) (O : Nat → Prop) (n : Nat) (of : Int) (o b : List Int) (so' sb' : Value), Hid (L.drop k = frs mtu later mf n of o b) ∧ b.length ≤ n ∧ o.length ≤ 40 ∧ 0 ≤ of ∧ of + (b.length : Int) ≤ 100000 ∧ Hid (J k O wr) ∧ Hid (ItM f mf R w W lb lv later O of o b so' sb' wr)) (fun wr => bodyLen wr lb)
    case atStart => exact ⟨0, O, body.length, off, opts, body, so, sb, by show _ = _; rw [List.drop_zero]; exact HL.out.symm, Nat.le_refl _, hno, hoff, hob, HJ1, HIT⟩
    case round =>
      obtain ⟨k, O, n, of, o, b, so', sb', hdr, hbn, hol, hof, hofb, hj, hit⟩ := hrel
      have hbo := hit.out.bo
      have hbb := hit.out.bb
      obtain ⟨a2, c2, hso'⟩ : ∃ a c, so' = .slice a o.length c := by obtain ⟨_, _, a, cap, e, _⟩ := hbo.row; exact ⟨_, _, e⟩
      obtain ⟨a1, c1, hsb'⟩ : ∃ a c, sb' = .slice a b.length c := by obtain ⟨_, _, a, cap, e, _⟩ := hbb.row; exact ⟨_, _, e⟩
      subst hso' hsb'
      have hc16 : ∀ x : Hi wr, x.W.cell? ⟨lb, 16, none⟩ = some (.slice a1 b.length c1) := fun x => vb16 (Hi.blk hit.out.box x)
      have hc15 : ∀ x : Hi wr, x.W.cell? ⟨lb, 15, none⟩ = some (.slice a2 o.length c2) := fun x => vb15 (Hi.blk hit.out.box x)
      have hcm : ∀ x : Hi wr, x.W.cell? ⟨mb, 0, none⟩ = some (.int .i64 mtu) := fun x => HMR.out x.W (hit.out.on hWw HRL.out x.below).rd
      obtain ⟨sp, hsp⟩ : ∃ sp : Nat, sp = mtu - 20 - o.length := ⟨_, rfl⟩
      have HSPA : Hid (∀ X : World, RowC X (.slice a2 o.length c2) o → Calls Try.prog 26 #[.slice a2 o.length c2, .int .i64 mtu] X fun e w' => e = .returned (.int .i64 (sp : Nat)) ∧ Below X.heap.size X w') := fun X hX => by
        have := space_calls _ o mtu X hX hm2
        rw [show (mtu : Int) - 20 - (o.length : Int) = (sp : Int) by omega] at this
        exact this
      have HSP : Hid (∀ x : Hi wr, Calls Try.prog 26 #[.slice a2 o.length c2, .int .i64 mtu] x.W fun e w' => e = .returned (.int .i64 (sp : Nat)) ∧ Below x.W.heap.size x.W w') := fun x => HSPA.out _ (hbo.row.on x.below)
      have hbl2 := hbb.row.len
      have HROOM : Hid (room mtu o.length = sp / 8 * 8) := by show room mtu o.length = _; rw [hsp]; rfl
      have hsp8 : 8 ≤ sp := by omega
      have hspm : sp ≤ 65535 := by omega
      have HSPE : Hid _ := hsp
      have HOL : Hid _ := hol
      have HITB : Hid _ := bodyLen_of hit.out.box
      clear hbo hbb hsp hol
      generalize hol' : o.length = no at *
      generalize hbl' : b.length = nb at *
      have HNO : Hid _ := hol'
      have HNB : Hid _ := hbl'
      clear hol' hbl'
      gi_wp2_with fail
      refine wpIn_wide.2 ?_
      refine wp_region_hi (by kernel_rfl) (by kernel_rfl) ?_
      repeat (first | go_big_quiet_skip | (go_big_quiet_want; go_big_quiet_op; first | go_big_quiet_on | go_big_quiet_call (first | (go_at_call 26; with_reducible exact Hi.calls (HSP.out _)))))
      refine wpQuiet_nil ?_
      intro _ hw
      obtain ⟨y, rfl⟩ := hw
      have hity : Hid (ItM f mf R w W lb lv later O of o b (.slice a2 no c2) (.slice a1 nb c1) y.W) := hit.out.on hWw HRL.out y.below
      have hjy : Hid (J k O y.W) := HJ.out k O _ _ hj.out (Sep.of_below y.below)
      have d16 := hc16 y
      have d15 := hc15 y
      have dm := hcm y
      clear hc16 hc15 hcm HSP hit hj
      generalize hyW : y.W = A at *
      clear hyW
      by_cases hfit : sp < nb
      · have HFIT : Hid (¬ 20 + o.length + b.length ≤ mtu) := by have h1 := HNO.out; have h2 := HNB.out; have h3 := HSPE.out; show ¬ _; omega
        gi_wp2_with fail
        refine ⟨trivial, (callsIn_wide.2 (HSPA.out _ hity.out.bo.row)).mono ?_⟩
        rintro e w2 ⟨rfl, hb2⟩
        have hit2 : Hid (ItM f mf R w W lb lv later O of o b (.slice a2 no c2) (.slice a1 nb c1) w2) := hity.out.on hWw HRL.out hb2
        have hj2 : Hid (J k O w2) := HJ.out k O _ _ hjy.out (Sep.of_below hb2)
        obtain ⟨w3, hst, hbx, hB3, hs3⟩ := vb_new w2 f mf of (so := .slice a2 no c2) (sb := .slice a1 nb c1) rfl rfl
        unfold zeroV at hst
        have HST : Hid _ := hst
        have HLD : Hid _ := vb_load hit2.out.box
        have hit3 : Hid (ItM f mf R w W lb lv later O of o b (.slice a2 no c2) (.slice a1 nb c1) w3) := hit2.out.on hWw HRL.out hB3
        have hj3 : Hid (J k O w3) := HJ.out k O _ _ hj2.out (Sep.of_below hB3)
        have HBX : Hid _ := hbx
        have HB3 : Hid _ := hB3
        have HS3 : Hid _ := hs3
        clear hst hbx hB3 hs3 d16 d15 dm HSPA hb2 hity hjy
        gi_wp2_with first
          | ((with_reducible show wpListIn _ _ _ _ _ _ _ _); refine armLI (.tmp 4) 27 rfl rfl rfl HLD.out ?_)
          | ((with_reducible show wpListIn _ _ _ _ _ _ _ _); refine armSI (.tmp 7) (.tmp 26) 27 rfl rfl rfl rfl HST.out ?_)
        obtain ⟨nn, hnn⟩ : ∃ nn : Nat, nn = sp / 8 * 8 := ⟨_, rfl⟩
        rw [show ((sp : Int) / 8 * 8) = (nn : Int) by omega]
        simp only [Act.put]
        have HRN : Hid (room mtu o.length = nn) := by show room mtu o.length = nn; rw [HNO.out, HROOM.out, hnn]
        have hn8 : 8 ≤ nn := by omega
        have hnb : nn < nb := by omega
        have hnm : nn ≤ 100000 := by omega
        have hpos : 0 < b.length := by rw [HNB.out]; omega
        obtain ⟨u1, hu1, hbu1⟩ := cut_front hit3.out.bb hpos nn (by rw [HNB.out]; omega)
        have hlbw : lb < w2.heap.size := (Array.getElem?_eq_some_iff.1 hit2.out.box).1
        have hu1s := hbu1.slc
        have HU1 : Hid _ := hu1
        have HBU1 : Hid _ := hbu1
        have HNN : Hid _ := hnn
        have HIT3 : Hid _ := hit3.out.box
        clear hu1 hbu1 hnn HLD HST
        refine wpIn_wide.2 ?_
        refine region_mid (fun a0 a' w' => a' = ((((((a0.put (some 27) (.pointer (some ⟨lb, 16, none⟩))).put (some 28) ((.slice a1 nb c1))).put (some 29) (.int .i64 (nn : Nat))).put (some 30) (u1)).put (some 31) (.pointer (some ⟨w2.heap.size, 3, none⟩))).put (some 32) (.pointer (some ⟨w2.heap.size, 16, none⟩))) ∧ w'.heap[w2.heap.size]? = some (BV f true of (.slice a2 no c2) u1) ∧ Below w2.heap.size w2 w') ?_ ?_
        · skip
          refine wp_region_held (S := fun X => X.heap[lb]? = some (BV f mf of (.slice a2 no c2) (.slice a1 nb c1))) (by kernel_rfl) ?_
          show wpAnyH _ _ _ _ _ 8 (Array.replicate 8 false) _ _
          have hs0 : w3.drew.heap[lb]? = some (BV f mf of (.slice a2 no c2) (.slice a1 nb c1)) := HIT3.out
          refine take_one (i := 0) (d := some 27) (v := .pointer (some ⟨lb, 16, none⟩)) rfl rfl rfl (by kernel_rfl) (by kernel_rfl) (by kernel_rfl) (fun _ _ _ _ _ h => h.elim) (fun W hS => by kernel_rfl) hs0 ?_
          simp only [Act.put, List.setIfInBounds_toArray, List.set_cons_zero, List.set_cons_succ]
          refine take_one (i := 1) (d := some 28) (v := (.slice a1 nb c1)) rfl rfl rfl (by kernel_rfl) (by kernel_rfl) (by kernel_rfl) (fun _ _ _ _ _ h => h.elim) (fun W hS => ex_load 27 rfl rfl (vb16 hS) ⟨_, _, _, rfl⟩) hs0 ?_
          simp only [Act.put, List.setIfInBounds_toArray, List.set_cons_zero, List.set_cons_succ]
          refine take_one (i := 2) (d := some 29) (v := .int .i64 (nn : Nat)) rfl rfl rfl (by kernel_rfl) (by kernel_rfl) (by kernel_rfl) (fun _ _ _ _ _ h => h.elim) (fun W hS => by kernel_rfl) hs0 ?_
          simp only [Act.put, List.setIfInBounds_toArray, List.set_cons_zero, List.set_cons_succ]
          refine take_one (i := 3) (d := some 30) (v := u1) rfl rfl rfl (by kernel_rfl) (by kernel_rfl) (by kernel_rfl) (fun _ _ _ _ _ h => h.elim) (fun W hS => ex_slice 25 (.tmp 28) none (some (.tmp 29)) rfl rfl rfl rfl (HU1.out W)) hs0 ?_
          simp only [Act.put, List.setIfInBounds_toArray, List.set_cons_zero, List.set_cons_succ]
          refine take_one (i := 4) (d := some 31) (v := .pointer (some ⟨w2.heap.size, 3, none⟩)) rfl rfl rfl (by kernel_rfl) (by kernel_rfl) (by kernel_rfl) (fun _ _ _ _ _ h => h.elim) (fun W hS => by kernel_rfl) hs0 ?_
          simp only [Act.put, List.setIfInBounds_toArray, List.set_cons_zero, List.set_cons_succ]
          have hf0 : w3.drew.heap[w2.heap.size]? = some (BV f mf of (.slice a2 no c2) (.slice a1 nb c1)) := HBX.out
          have hf1 := vs3 hf0 true
          have hl1 := blk_set_other hs0 (show lb ≠ w2.heap.size by omega) 3 (.bool true)
          refine all_one (i := 5) (by kernel_rfl) rfl rfl ?_
          refine wp_storeA (.tmp 31) (.const (.bool true)) 4 rfl rfl rfl rfl (st_bool hf0 (show 3 < 17 by decide) true) ⟨hl1, ?_⟩
          refine take_one (i := 6) (d := some 32) (v := .pointer (some ⟨w2.heap.size, 16, none⟩)) rfl rfl rfl (by kernel_rfl) (by kernel_rfl) (by kernel_rfl) (fun _ _ _ _ _ h => h.elim) (fun W hS => by kernel_rfl) hl1 ?_
          simp only [Act.put, List.setIfInBounds_toArray, List.set_cons_zero, List.set_cons_succ]
          have hf2 := vs16 hf1 u1
          have hl2 := blk_set_other hl1 (show lb ≠ w2.heap.size by omega) 16 u1
          refine all_one (i := 7) (by kernel_rfl) rfl rfl ?_
          refine wp_storeA (.tmp 32) (.tmp 30) 25 rfl rfl rfl rfl (st_row hf1 (show 16 < 17 by decide) hu1s) ⟨hl2, ?_⟩
          refine wpAnyH_done (by kernel_rfl) ?_ _
          refine ⟨rfl, hf2, ?_⟩
          exact ((HB3.out.drew).setCell (p := ⟨w2.heap.size, 3, none⟩) (Nat.le_refl _) _).setCell (p := ⟨w2.heap.size, 16, none⟩) (Nat.le_refl _) _
        · rintro a' w4 ⟨rfl, hf4, hB4⟩
          simp only [Act.put, List.setIfInBounds_toArray, List.set_cons_zero, List.set_cons_succ]
          have hdr0 := hdr.out
          obtain ⟨n', hn', hfr⟩ := frs_step (later := later) (mf := mf) (off := of) HFIT.out hm (by rw [HNO.out]; exact HOL.out) (n := n) (by rw [HNB.out]; exact hbn)
          rw [hfr, HRN.out] at hdr0
          obtain ⟨hLk, hLd, hkL⟩ := drop_at hdr0
          rw [HRN.out] at hn'
          have hit4 : ItM f mf R w W lb lv later O of o b (.slice a2 no c2) (.slice a1 nb c1) w4 := hit2.out.on hWw HRL.out hB4
          have hj4 : J k O w4 := HJ.out k O _ _ hj2.out (Sep.of_below hB4)
          have hX : FragX f L k (VV f true of (.slice a2 no c2) u1) O w4 := by
            refine ⟨_, _, _, hLk, rfl, hit4.frag hit4.bo, ?_⟩
            have hcut : BS _ w3 u1 (b.take nn) := HBU1.out
            obtain ⟨u1', hu1', hb1'⟩ := cut_front hit4.bb hpos nn (by rw [HNB.out]; omega)
            have e : u1 = u1' := by
              have h1 := HU1.out w4
              rw [hu1' w4] at h1
              injection h1 with h1 _
              exact h1.symm
            rw [e]
            exact hit4.frag hb1'
          have hyk := HY.out k _ w4 O hkL hit4.size hit4.own hX hj4 (9 - 1)
          obtain ⟨fn, tmps, assign, bodyc, hy, hR⟩ := hyk
          have HLD4 : Hid _ := vb_load hf4
          have HLD : Hid (L.drop (k + 1) = frs mtu later mf n' (of + (nn / 8 : Nat)) later (b.drop nn)) := hLd
          have HN' : Hid ((b.drop nn).length ≤ n') := hn'
          have HRR : Hid _ := hR
          have HIT4 : Hid (ItM f mf R w W lb lv later O of o b (.slice a2 no c2) (.slice a1 nb c1) w4) := hit4
          clear hf4 hB4 hdr0 hfr hLk hLd hit4 hj4 hX hR hn' HB3 HS3 HBX HIT3 hit3 hj3 hit2 hj2
          gi_wp2_with first
            | ((with_reducible show wpListIn _ _ _ _ _ _ _ _); refine armLI (.tmp 7) 27 rfl rfl rfl HLD4.out ?_)
          refine RoundIn.mono HRR.out ?_
          rintro e W3 ⟨O', hsep, hO', hend⟩
          have hit5 := HIT4.out.round hWw HRL.out hsep hO'
          have HIT5 : Hid (ItM f mf R w W lb lv later O' of o b (.slice a2 no c2) (.slice a1 nb c1) W3) := hit5
          clear hy HRR HLD4 hit5 hsep hO' HIT4
          rcases hend with ⟨rfl, hj5⟩ | ⟨rfl, hz5⟩
          · obtain ⟨u2, hu2, hbu2⟩ := cut_rest HIT5.out.bb hpos nn (by rw [HNB.out]; omega)
            have hu2s := hbu2.slc
            have hlvs := HIT5.out.bl.slc
            have HU2 : Hid _ := hu2
            have HBU2 : Hid (BS _ W3 u2 (b.drop nn)) := hbu2
            have HJ5 : Hid _ := hj5
            have hofn : -9223372036854775808 ≤ of + ((nn / 8 : Nat) : Int) ∧ of + ((nn / 8 : Nat) : Int) ≤ 9223372036854775807 := by omega
            clear hu2 hbu2 hj5
            gi_wp2_with fail
            refine wpIn_wide.2 ?_
            refine region_mid (fun a0 a' w' => a' = (((((((((((((a0.put (some 37) (.pointer (some ⟨lb, 4, none⟩))).put (some 38) (.int .i64 of)).put (some 39) (.int .i64 (nn : Nat))).put (some 40) (.int .i64 (nn / 8 : Nat))).put (some 41) (.int .i64 (of + (nn / 8 : Nat)))).put (some 42) (lv)).put (some 43) (.pointer (some ⟨lb, 16, none⟩))).put (some 44) ((.slice a1 nb c1))).put (some 45) (.int .i64 (nn : Nat))).put (some 46) (u2)).put (some 47) (.pointer (some ⟨lb, 4, none⟩))).put (some 48) (.pointer (some ⟨lb, 15, none⟩))).put (some 49) (.pointer (some ⟨lb, 16, none⟩))) ∧ w'.heap[lb]? = some (BV f mf (of + (nn / 8 : Nat)) lv u2) ∧ Only lb W3 w') ?_ ?_
            · skip
              refine wp_region_held (S := fun _ => True) (by kernel_rfl) ?_
              show wpAnyH _ _ _ _ _ 16 (Array.replicate 16 false) _ _
              have hb0 : W3.drew.heap[lb]? = some (BV f mf of (.slice a2 no c2) (.slice a1 nb c1)) := HIT5.out.box
              refine take_one (i := 0) (d := some 37) (v := .pointer (some ⟨lb, 4, none⟩)) rfl rfl rfl (by kernel_rfl) (by kernel_rfl) (by kernel_rfl) (fun _ _ _ _ _ h => h.elim) (fun W hS => by kernel_rfl) trivial ?_
              simp only [Act.put, List.setIfInBounds_toArray, List.set_cons_zero, List.set_cons_succ]
              refine take_one (i := 2) (d := some 39) (v := .int .i64 (nn : Nat)) rfl rfl rfl (by kernel_rfl) (by kernel_rfl) (by kernel_rfl) (fun _ _ _ _ _ h => h.elim) (fun W hS => by kernel_rfl) trivial ?_
              simp only [Act.put, List.setIfInBounds_toArray, List.set_cons_zero, List.set_cons_succ]
              refine take_one (i := 3) (d := some 40) (v := .int .i64 (nn / 8 : Nat)) rfl rfl rfl (by kernel_rfl) (by kernel_rfl) (by kernel_rfl) (fun _ _ _ _ _ h => h.elim) (fun W hS => ex_div8 (.tmp 39) rfl rfl hnm) trivial ?_
              simp only [Act.put, List.setIfInBounds_toArray, List.set_cons_zero, List.set_cons_succ]
              refine take_one (i := 5) (d := some 42) (v := lv) rfl rfl rfl (by kernel_rfl) (by kernel_rfl) (by kernel_rfl) (fun _ _ _ _ _ h => h.elim) (fun W hS => by kernel_rfl) trivial ?_
              simp only [Act.put, List.setIfInBounds_toArray, List.set_cons_zero, List.set_cons_succ]
              refine take_one (i := 6) (d := some 43) (v := .pointer (some ⟨lb, 16, none⟩)) rfl rfl rfl (by kernel_rfl) (by kernel_rfl) (by kernel_rfl) (fun _ _ _ _ _ h => h.elim) (fun W hS => by kernel_rfl) trivial ?_
              simp only [Act.put, List.setIfInBounds_toArray, List.set_cons_zero, List.set_cons_succ]
              refine take_one (i := 8) (d := some 45) (v := .int .i64 (nn : Nat)) rfl rfl rfl (by kernel_rfl) (by kernel_rfl) (by kernel_rfl) (fun _ _ _ _ _ h => h.elim) (fun W hS => by kernel_rfl) trivial ?_
              simp only [Act.put, List.setIfInBounds_toArray, List.set_cons_zero, List.set_cons_succ]
              refine all_two (i1 := 1) (i2 := 7) (by kernel_rfl) rfl rfl rfl rfl ?_ ?_
              · refine wp_loadA (d := some 38) (.tmp 37) 3 rfl rfl rfl (ld_int (vb4 hb0)) ⟨trivial, ?_⟩
                simp only [Act.put, List.setIfInBounds_toArray, List.set_cons_zero, List.set_cons_succ]
                refine take_one (i := 4) (d := some 41) (v := .int .i64 (of + (nn / 8 : Nat))) rfl rfl rfl (by kernel_rfl) (by kernel_rfl) (by kernel_rfl) (fun _ _ _ _ _ h => h.elim) (fun W hS => ex_add (.tmp 38) (.tmp 40) rfl rfl rfl hofn) trivial ?_
                simp only [Act.put, List.setIfInBounds_toArray, List.set_cons_zero, List.set_cons_succ]
                refine all_one (i := 7) (by kernel_rfl) rfl rfl ?_
                refine wp_loadA (d := some 44) (.tmp 43) 25 rfl rfl rfl (ld_row (vb16 hb0) ⟨_, _, _, rfl⟩) ⟨trivial, ?_⟩
                simp only [Act.put, List.setIfInBounds_toArray, List.set_cons_zero, List.set_cons_succ]
                refine take_one (i := 9) (d := some 46) (v := u2) rfl rfl rfl (by kernel_rfl) (by kernel_rfl) (by kernel_rfl) (fun _ _ _ _ _ h => h.elim) (fun W hS => ex_slice 25 (.tmp 44) (some (.tmp 45)) none rfl rfl rfl rfl (HU2.out W)) trivial ?_
                simp only [Act.put, List.setIfInBounds_toArray, List.set_cons_zero, List.set_cons_succ]
                refine take_one (i := 10) (d := some 47) (v := .pointer (some ⟨lb, 4, none⟩)) rfl rfl rfl (by kernel_rfl) (by kernel_rfl) (by kernel_rfl) (fun _ _ _ _ _ h => h.elim) (fun W hS => by kernel_rfl) trivial ?_
                simp only [Act.put, List.setIfInBounds_toArray, List.set_cons_zero, List.set_cons_succ]
                have hb1 := vs4 hb0 (of + (nn / 8 : Nat))
                refine all_one (i := 11) (by kernel_rfl) rfl rfl ?_
                refine wp_storeA (.tmp 47) (.tmp 41) 3 rfl rfl rfl rfl (st_int hb0 (show 4 < 17 by decide) _) ⟨trivial, ?_⟩
                refine take_one (i := 12) (d := some 48) (v := .pointer (some ⟨lb, 15, none⟩)) rfl rfl rfl (by kernel_rfl) (by kernel_rfl) (by kernel_rfl) (fun _ _ _ _ _ h => h.elim) (fun W hS => by kernel_rfl) trivial ?_
                simp only [Act.put, List.setIfInBounds_toArray, List.set_cons_zero, List.set_cons_succ]
                have hb2 := vs15 hb1 lv
                refine all_one (i := 13) (by kernel_rfl) rfl rfl ?_
                refine wp_storeA (.tmp 48) (.tmp 42) 25 rfl rfl rfl rfl (st_row hb1 (show 15 < 17 by decide) hlvs) ⟨trivial, ?_⟩
                refine take_one (i := 14) (d := some 49) (v := .pointer (some ⟨lb, 16, none⟩)) rfl rfl rfl (by kernel_rfl) (by kernel_rfl) (by kernel_rfl) (fun _ _ _ _ _ h => h.elim) (fun W hS => by kernel_rfl) trivial ?_
                simp only [Act.put, List.setIfInBounds_toArray, List.set_cons_zero, List.set_cons_succ]
                have hb3 := vs16 hb2 u2
                refine all_one (i := 15) (by kernel_rfl) rfl rfl ?_
                refine wp_storeA (.tmp 49) (.tmp 46) 25 rfl rfl rfl rfl (st_row hb2 (show 16 < 17 by decide) hu2s) ⟨trivial, ?_⟩
                refine wpAnyH_done (by kernel_rfl) ?_ _
                exact ⟨rfl, hb3, ((((Only.refl lb W3).drew).set 4 _).set 15 _).set 16 _⟩
              · refine wp_loadA (d := some 44) (.tmp 43) 25 rfl rfl rfl (ld_row (vb16 hb0) ⟨_, _, _, rfl⟩) ⟨trivial, ?_⟩
                simp only [Act.put, List.setIfInBounds_toArray, List.set_cons_zero, List.set_cons_succ]
                refine take_one (i := 9) (d := some 46) (v := u2) rfl rfl rfl (by kernel_rfl) (by kernel_rfl) (by kernel_rfl) (fun _ _ _ _ _ h => h.elim) (fun W hS => ex_slice 25 (.tmp 44) (some (.tmp 45)) none rfl rfl rfl rfl (HU2.out W)) trivial ?_
                simp only [Act.put, List.setIfInBounds_toArray, List.set_cons_zero, List.set_cons_succ]
                refine all_one (i := 1) (by kernel_rfl) rfl rfl ?_
                refine wp_loadA (d := some 38) (.tmp 37) 3 rfl rfl rfl (ld_int (vb4 hb0)) ⟨trivial, ?_⟩
                simp only [Act.put, List.setIfInBounds_toArray, List.set_cons_zero, List.set_cons_succ]
                refine take_one (i := 4) (d := some 41) (v := .int .i64 (of + (nn / 8 : Nat))) rfl rfl rfl (by kernel_rfl) (by kernel_rfl) (by kernel_rfl) (fun _ _ _ _ _ h => h.elim) (fun W hS => ex_add (.tmp 38) (.tmp 40) rfl rfl rfl hofn) trivial ?_
                simp only [Act.put, List.setIfInBounds_toArray, List.set_cons_zero, List.set_cons_succ]
                refine take_one (i := 10) (d := some 47) (v := .pointer (some ⟨lb, 4, none⟩)) rfl rfl rfl (by kernel_rfl) (by kernel_rfl) (by kernel_rfl) (fun _ _ _ _ _ h => h.elim) (fun W hS => by kernel_rfl) trivial ?_
                simp only [Act.put, List.setIfInBounds_toArray, List.set_cons_zero, List.set_cons_succ]
                have hb1 := vs4 hb0 (of + (nn / 8 : Nat))
                refine all_one (i := 11) (by kernel_rfl) rfl rfl ?_
                refine wp_storeA (.tmp 47) (.tmp 41) 3 rfl rfl rfl rfl (st_int hb0 (show 4 < 17 by decide) _) ⟨trivial, ?_⟩
                refine take_one (i := 12) (d := some 48) (v := .pointer (some ⟨lb, 15, none⟩)) rfl rfl rfl (by kernel_rfl) (by kernel_rfl) (by kernel_rfl) (fun _ _ _ _ _ h => h.elim) (fun W hS => by kernel_rfl) trivial ?_
                simp only [Act.put, List.setIfInBounds_toArray, List.set_cons_zero, List.set_cons_succ]
                have hb2 := vs15 hb1 lv
                refine all_one (i := 13) (by kernel_rfl) rfl rfl ?_
                refine wp_storeA (.tmp 48) (.tmp 42) 25 rfl rfl rfl rfl (st_row hb1 (show 15 < 17 by decide) hlvs) ⟨trivial, ?_⟩
                refine take_one (i := 14) (d := some 49) (v := .pointer (some ⟨lb, 16, none⟩)) rfl rfl rfl (by kernel_rfl) (by kernel_rfl) (by kernel_rfl) (fun _ _ _ _ _ h => h.elim) (fun W hS => by kernel_rfl) trivial ?_
                simp only [Act.put, List.setIfInBounds_toArray, List.set_cons_zero, List.set_cons_succ]
                have hb3 := vs16 hb2 u2
                refine all_one (i := 15) (by kernel_rfl) rfl rfl ?_
                refine wp_storeA (.tmp 49) (.tmp 46) 25 rfl rfl rfl rfl (st_row hb2 (show 16 < 17 by decide) hu2s) ⟨trivial, ?_⟩
                refine wpAnyH_done (by kernel_rfl) ?_ _
                exact ⟨rfl, hb3, ((((Only.refl lb W3).drew).set 4 _).set 15 _).set 16 _⟩
            · rintro a' w6 ⟨rfl, hb6, hon6⟩
              simp only [Act.put, List.setIfInBounds_toArray, List.set_cons_zero, List.set_cons_succ]
              have hit6 : ItM f mf R w W lb lv later O' (of + (nn / 8 : Nat)) later (b.drop nn) lv u2 w6 := HIT5.out.put hWw HRL.out hon6 hb6 HIT5.out.bl HBU2.out
              have hj6 : J (k + 1) O' w6 := HJ.out _ _ _ _ HJ5.out (Sep.of_only hon6 ⟨HIT5.out.lo, HIT5.out.nl⟩)
              have HIT6 : Hid (ItM f mf R w W lb lv later O' (of + (nn / 8 : Nat)) later (b.drop nn) lv u2 w6) := hit6
              have HJ6 : Hid (J (k + 1) O' w6) := hj6
              have HBL6 : Hid (bodyLen w6 lb = nb - nn) := by show bodyLen w6 lb = nb - nn; rw [bodyLen_of hb6, HBU2.out.row.lenV, List.length_drop, HNB.out]
              have HDL : Hid ((b.drop nn).length = nb - nn) := by show (b.drop nn).length = nb - nn; rw [List.length_drop, HNB.out]
              clear hit6 hj6 hb6 hon6 HIT5 HJ5 HU2 HBU2
              gi_wp2_with fail
              refine ⟨⟨k + 1, O', n', of + (nn / 8 : Nat), later, b.drop nn, lv, u2, HLD, HN'.out, hcl.1, by omega, ?_, HJ6, HIT6⟩, ?_⟩
              · have := HDL.out; omega
              · have h1 := HBL6.out
                have h2 := HITB.out
                simp only [lenV] at h2
                omega
          · gi_wp2_with fail
            refine bodyPost_ret (results_none rfl _ _ _) rfl ?_
            exact ⟨⟨_, rfl⟩, O', .inr hz5⟩
      · have HFIT : Hid (20 + o.length + b.length ≤ mtu) := by have h1 := HNO.out; have h2 := HNB.out; have h3 := HSPE.out; show _ ≤ _; omega
        have hdr0 := hdr.out
        rw [frs_fits HFIT.out] at hdr0
        obtain ⟨hLk, hLd, hkL⟩ := drop_at hdr0
        have hLe : L.length = k + 1 := by
          have := congrArg List.length hdr0
          simp at this
          omega
        have hX : FragX f L k (VV f mf of (.slice a2 no c2) (.slice a1 nb c1)) O A := ⟨_, _, _, hLk, rfl, hity.out.frag hity.out.bo, hity.out.frag hity.out.bb⟩
        have hyk := HY.out k _ A O hkL hity.out.size hity.out.own hX hjy.out (9 - 1)
        obtain ⟨fn, tmps, assign, bodyc, hy, hR⟩ := hyk
        have HLD4 : Hid _ := vb_load hity.out.box
        have HRR : Hid _ := hR
        have HLE : Hid _ := hLe
        clear hdr0 hLk hLd hX hR hLe d16 d15 dm hkL
        gi_wp2_with first
          | ((with_reducible show wpListIn _ _ _ _ _ _ _ _); refine armLI (.tmp 4) 27 rfl rfl rfl HLD4.out ?_)
        refine RoundIn.mono HRR.out ?_
        rintro e W3 ⟨O', hsep, hO', hend⟩
        clear hy HRR HLD4 hsep hO'
        rcases hend with ⟨rfl, hj5⟩ | ⟨rfl, hz5⟩
        · have HJ5 : Hid (J L.length O' W3) := by show J L.length O' W3; rw [HLE.out]; exact hj5
          clear hj5
          gi_wp2_with fail
          go_end0
          exact ⟨⟨_, rfl⟩, O', .inl HJ5.out⟩
        · gi_wp2_with fail
          go_end0
          exact ⟨⟨_, rfl⟩, O', .inr hz5⟩

end Go.Proofs.Ytackllcfnlhkpaa
