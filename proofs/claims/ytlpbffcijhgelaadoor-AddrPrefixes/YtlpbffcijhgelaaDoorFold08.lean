/-
  What the document's Read6 comes to, plainly.
  The document's Whole6, of whatever was read.
  The statement AddrSixes for every argument.
  The program's reader of prefixes and the document's are one plain function.
  The document's Prefix6, of any text.
  The document's Prefix4, of any text.
-/
import Derived.Test.YtlpbffcijhgelaaDoorQa7
import Derived.Test.YtlpbffcijhgelaaDoorFold07
import Derived.Test.YtlpbffcijhgelaaDoorFold03
import Derived.Test.YtlpbffcijhgelaaDoorFold04
import Derived.Test.YtlpbffcijhgelaaDoorQa8
import Derived.Test.YtlpbffcijhgelaaDoorFold00
import Derived.Test.YtlpbffcijhgelaaDoorFold01
import Derived.Test.YtlpbffcijhgelaaDoorFold05
import Derived.Lib.Bytealg
namespace Go.Proofs.YtlpbffcijhgelaaDoor
set_option linter.unusedVariables false
set_option linter.unusedSimpArgs false
open Go Go.RowKit

structure SixS.Fin (x : SixS) : Prop where
  few : x.L.length ≤ 7
  gap : -1 ≤ x.gap ∧ x.gap ≤ x.L.length
  short : x.part.length ≤ 15
  nums : ∀ z ∈ x.L, 0 ≤ z ∧ z < 65536
  fit : x.part ≠ [] → (grpB x.part = true ∧ (x.L.length : Int) + 1 ≤ x.room) ∨ (begB x.part = true ∧ (x.L.length : Int) + 2 ≤ x.room)
theorem SixS.Fin.new : SixS.Fin ⟨[], -1, []⟩ := ⟨by simp, by decide, by simp, by simp, fun h => absurd rfl h⟩
theorem step_fin {l : List Int} {k : Nat} {c : Int} {x y : SixS} (h : x.step l k c = some y) (hx : x.Fin) : y.Fin := by
  obtain ⟨h1, h2, h3, h4, h5⟩ := hx
  unfold SixS.step at h
  split at h
  · rename_i hc
    split at h
    · cases h; exact ⟨h1, h2, h3, h4, h5⟩
    · split at h
      · cases h; exact ⟨h1, ⟨by show (-1 : Int) ≤ (x.L.length : Int); omega, Int.le_refl _⟩, h3, h4, fun k => absurd hc.2 k⟩
      · cases h
  · split at h
    · split at h
      · cases h
      · rename_i hh
        cases h
        have hr : x.room ≤ 8 := by unfold SixS.room; split <;> omega
        have hg : grpB x.part = true := by
          cases hgb : grpB x.part with
          | true => rfl
          | false => exact absurd (.inl hgb) hh
        have hlt : ¬ (x.room ≤ x.L.length + 1) := fun e => hh (.inr e)
        refine ⟨by simp; omega, ⟨h2.1, by simp; omega⟩, by simp, fun z hz => ?_, fun k => absurd rfl k⟩
        rcases List.mem_append.1 hz with hz | hz
        · exact h4 z hz
        · simp at hz; subst hz; exact grp_val hg
    · split at h
      · cases h
      · split at h
        · rename_i hh
          cases h
          simp only [Bool.or_eq_true, Bool.and_eq_true, decide_eq_true_eq] at hh
          refine ⟨h1, h2, ?_, h4, fun _ => ?_⟩
          · show (x.part ++ [c]).length ≤ 15
            rcases hh with ⟨hh, _⟩ | ⟨hh, _⟩
            · unfold grpB at hh
              simp only [Bool.and_eq_true, decide_eq_true_eq] at hh
              omega
            · exact beg_len hh
          · rcases hh with ⟨k1, k2⟩ | ⟨k1, k2, _⟩
            · exact .inl ⟨k1, k2⟩
            · exact .inr ⟨k1, k2⟩
        · cases h
theorem read6_fin (l : List Int) : ∀ (f i : Nat) (x : SixS), x.Fin → (read6 l f i x).1.Fin
  | 0, i, x, h => h
  | f + 1, i, x, h => by
    rw [read6]
    cases hs : x.step l i (l.getD i 0) with
    | none => exact h
    | some y => exact read6_fin l f (i + 1) y (step_fin hs h)
theorem read6_le (l : List Int) : ∀ (f i : Nat) (x : SixS), (read6 l f i x).2 ≤ i + f
  | 0, i, x => Nat.le_refl _
  | f + 1, i, x => by
    rw [read6]
    cases hs : x.step l i (l.getD i 0) with
    | none => exact Nat.le_add_right _ _
    | some y => have := read6_le l f (i + 1) y; simp only; omega
theorem parts_who (l : List Int) (h : whoB l = true) : ∃ a b c d : List Int, splitA 46 [] l = [a, b, c, d] ∧ octB a 255 = true ∧ octB b 255 = true ∧ octB c 255 = true ∧ octB d 255 = true := by
  unfold whoB begB at h
  simp only [Bool.and_eq_true, decide_eq_true_eq] at h
  obtain ⟨⟨h1, h2⟩, h3, h4⟩ := h
  generalize splitA 46 [] l = P at *
  match P, h3 with
  | [a, b, c, d], _ =>
    simp only [partsOk, Bool.and_eq_true] at h2
    exact ⟨a, b, c, d, rfl, h2.1.1, h2.2.1.1, h2.2.2.1.1, h2.2.2.2⟩
theorem oct_val {q : List Int} (h : octB q 255 = true) : 0 ≤ numF 0 q ∧ numF 0 q ≤ 255 := by
  cases q with
  | nil => exact ⟨by decide, by decide⟩
  | cons a r =>
    unfold octB at h
    simp only [List.isEmpty_cons, Bool.false_or, Bool.and_eq_true, decide_eq_true_eq] at h
    exact ⟨(numF_range _ 0 (by omega) h.2.1).1, h.2.2⟩
theorem takes_parts (l : List Int) (h : whoB l = true) : ∃ a b c d : Int, (splitA 46 [] l).map (numF 0) = [a, b, c, d] ∧ (0 ≤ a ∧ a ≤ 255) ∧ (0 ≤ b ∧ b ≤ 255) ∧ (0 ≤ c ∧ c ≤ 255) ∧ (0 ≤ d ∧ d ≤ 255) := by
  obtain ⟨a, b, c, d, e, ha, hb, hc, hd⟩ := parts_who l h
  exact ⟨_, _, _, _, by rw [e]; rfl, oct_val ha, oct_val hb, oct_val hc, oct_val hd⟩
/-- The groups that stand there: how many, and how great. -/
theorem given_fin {x : SixS} (h : x.Fin) {l : List Int} (e : givenG x = some l) : (l.length : Int) ≤ x.room ∧ x.gap ≤ l.length ∧ ∀ z ∈ l, 0 ≤ z ∧ z < 65536 := by
  obtain ⟨h1, h2, h3, h4, h5⟩ := h
  have hr : 7 ≤ x.room := by unfold SixS.room; split <;> omega
  unfold givenG at e
  by_cases hg : grpB x.part = true
  · rw [if_pos hg] at e
    cases e
    have hp : x.part ≠ [] := fun k => by rw [k] at hg; cases hg
    refine ⟨?_, by simp; omega, fun z hz => ?_⟩
    · rw [List.length_append]
      rcases h5 hp with k | k <;> simp <;> omega
    · rcases List.mem_append.1 hz with hz | hz
      · exact h4 z hz
      · simp at hz; subst hz; exact grp_val hg
  · rw [if_neg hg] at e
    by_cases hw : x.part ≠ [] ∧ whoB x.part = true
    · rw [if_pos hw] at e
      cases e
      have hbeg : begB x.part = true := by
        have := hw.2
        unfold whoB at this
        simp only [Bool.and_eq_true] at this
        exact this.1
      have hlen : (x.L.length : Int) + 2 ≤ x.room := by
        rcases h5 hw.1 with k | k
        · exact absurd k.1 hg
        · exact k.2
      have hn := begN_full x.part hbeg x.part.length 0 (by omega)
      have hp4 : ∃ a b c d : Int, (rparse4 x.part).1 = [a, b, c, d] ∧ (0 ≤ a ∧ a ≤ 255) ∧ (0 ≤ b ∧ b ≤ 255) ∧ (0 ≤ c ∧ c ≤ 255) ∧ (0 ≤ d ∧ d ≤ 255) := by
        have hbt := takes_parts x.part hw.2
        unfold rparse4
        simp only
        rw [hn, if_neg (by simp [hw.2])]
        exact hbt
      obtain ⟨a, b, c, d, e4, ha, hb, hc, hd⟩ := hp4
      rw [e4]
      refine ⟨by simp; omega, by simp; omega, fun z hz => ?_⟩
      rcases List.mem_append.1 hz with hz | hz
      · exact h4 z hz
      · simp at hz
        rcases hz with rfl | rfl <;> omega
    · rw [if_neg hw] at e
      split at e
      · cases e
        exact ⟨by omega, h2.2, h4⟩
      · cases e
theorem whole_fin {x : SixS} (h : x.Fin) {G : List Int} (e : whole6 x = some G) : G.length = 8 ∧ ∀ z ∈ G, 0 ≤ z ∧ z < 65536 := by
  unfold whole6 at e
  cases hg : givenG x with
  | none => rw [hg] at e; cases e
  | some l =>
    rw [hg] at e
    obtain ⟨k1, k2, k3⟩ := given_fin h hg
    simp only at e
    split at e
    · split at e
      · cases e; exact ⟨by assumption, k3⟩
      · cases e
    · split at e
      · cases e
        refine ⟨by simp; omega, fun z hz => ?_⟩
        rcases List.mem_append.1 hz with hz | hz
        · rcases List.mem_append.1 hz with hz | hz
          · exact k3 z (List.mem_of_mem_take hz)
          · rw [(List.mem_replicate.1 hz).2]; decide
        · exact k3 z (List.mem_of_mem_drop hz)
      · cases e
end Go.Proofs.YtlpbffcijhgelaaDoor

namespace Go.Proofs.YtlpbffcijhgelaaDoor
set_option linter.unusedVariables false
set_option linter.unusedSimpArgs false
open Go Go.RowKit

def Ans6 (o : Option (List Int)) (w : World) (e : Ending) (w' : World) : Prop :=
  match o with
  | some G => Whole6Post G true w e w'
  | none => ∃ u, e = .returned (.tuple #[u, .bool false]) ∧ Below w.heap.size w w'
theorem Ans6.no {o : Option (List Int)} (h : o = none) {w w' : World} {e : Ending} {u : Value} (he : e = .returned (.tuple #[u, .bool false])) (hb : Below w.heap.size w w') : Ans6 o w e w' := by
  subst h
  exact ⟨u, he, hb⟩
theorem Ans6.yes {o : Option (List Int)} {G : List Int} (h : o = some G) {w w' : World} {e : Ending} {u : Value} (he : e = .returned (.tuple #[u, .bool true])) (hr : w'.ownsRow w.heap.size 3 1 u G.length (intsL G)) (hb : Below w.heap.size w w') : Ans6 o w e w' := by
  subst h
  exact ⟨u, he, hr, hb⟩

/-- Two numbers more. -/
theorem own_num2 {w : World} {base : Nat} {v : Value} {xs : List Int} (h : w.ownsRow base 3 1 v xs.length (intsL xs)) (hb : base ≤ w.heap.size) (hn : xs.length ≤ 1000) (z y : Int) (ty : TypeId) :
    ∃ v' w1, (Builtin.append_ #[87, 87] ty #[v, .slice (some ⟨w.heap.size, 0, none⟩) 2 2]).run Tryd.prog (w.alloc (.cells #[.int .i64 z, .int .i64 y] 3)) = .ok v' w1 ∧ w1.ownsRow base 3 1 v' (xs ++ [z, y]).length (intsL (xs ++ [z, y])) ∧ w.grownBy w1 v.ownBlock := by
  obtain ⟨v', w1, hrun, hown', hgrow, _⟩ := own_lit elem_int h hb (by omega) (by decide) [.int .i64 z, .int .i64 y] 2 rfl (by decide) (fun u hu => by simp at hu; rcases hu with rfl | rfl <;> rfl) ty #[.int .i64 z, .int .i64 y] rfl
  have e : intsL xs ++ [.int .i64 z, .int .i64 y] = intsL (xs ++ [z, y]) := by simp [intsL]
  have e2 : xs.length + 2 = (xs ++ [z, y]).length := by simp
  rw [e, e2] at hown'
  exact ⟨v', w1, hrun, hown', hgrow⟩

set_option maxHeartbeats 8000000 in
set_option maxRecDepth 100000 in
theorem Whole6_any (s : ByteArray) (v : Value) (x : SixS) (p : ByteArray) (base : Nat) (w : World) (hown : w.ownsRow base 3 1 v x.L.length (intsL x.L)) (hp : txt p = x.part) (hx : x.Fin) :
    Calls Tryd.prog 58 #[.string s, .agg (sixL v x.gap p).toArray] w fun e w' => Ans6 (whole6 x) w e w' := by
  generalize hQ : (fun e w' => Ans6 (whole6 x) w e w') = Q
  have HQ : Hid _ := hQ
  clear hQ
  have HG6 : Hid _ := @given_fin x hx
  have HXF : Hid _ := hx
  obtain ⟨a, cap, rfl, hlen, hz⟩ := own_form hown
  have h7 := hx.few
  have hgap := hx.gap
  have hps : p.size ≤ 15 := by have := hx.short; rw [← hp, txt_length] at this; exact this
  have hbx := blk_new w (.cells (sixL (.slice a x.L.length cap) x.gap p).toArray 89)
  have hB0 := (Below.refl w.heap.size w).alloc (Nat.le_refl _) (.cells (sixL (.slice a x.L.length cap) x.gap p).toArray 89)
  have hz0 : (w.alloc (.cells (sixL (.slice a x.L.length cap) x.gap p).toArray 89)).heap.size = w.heap.size + 1 := by simp
  have hgr := fun W => group_ref p W (by omega)
  rw [hp] at hgr
  have HG : Hid _ := hgr
  have HGV : Hid (grpB x.part = true → ∀ W, Calls Tryd.prog 79 #[.string p] W fun e w' => e = .returned (.int .i64 (valF x.part)) ∧ w' = W) := fun hg W => by
    have := value_ref p W (by rw [hp]; exact hg)
    rw [hp] at this
    exact this
  have HWH : Hid _ := fun W => whole_ref p W (by omega)
  have HP4 : Hid _ := fun W => Parse4_wide p W (by omega)
  have HP : Hid _ := hp
  clear hgr
  go_enter Tryd.func58, Tryd.ntmps58
  generalize hW0 : w.alloc (.cells (sixL (.slice a x.L.length cap) x.gap p).toArray 89) = W0 at *
  have hbxA : ∀ y : Hi W0, y.W.heap[w.heap.size]? = _ := fun y => Hi.blk hbx y
  have hown1 := World.ownsRow_lit (base := W0.heap.size) (e := 3) (size := 1) W0 #[] 0 (Nat.le_refl _) (by decide) rfl
  have hcL : ∀ (y : Addr), a = some y → ∀ (j : Nat) u, (intsL x.L)[j]? = some u → (W0.alloc (.cells #[] 3)).cell? (y.add j) = some u := by
    intro y hy j u hj
    rcases hz with hz | ⟨g, hg, _, hgl, hc⟩
    · rw [List.length_eq_zero_iff.1 hz] at hj
      simp [intsL] at hj
    · rw [hy] at hg
      cases hg
      rw [Go.WideShapes.add_plain]
      have e1 := hc j u hj
      have hb1 : Below W0.heap.size W0 (W0.alloc (.cells #[] 3)) := (Below.refl _ W0).alloc (Nat.le_refl _) _
      rw [Nat.zero_add]
      exact (hb1.cell (p := ⟨g, j, none⟩) (Nat.lt_of_lt_of_le hgl hB0.size)).trans ((hB0.cell (p := ⟨g, j, none⟩) hgl).trans e1)
  obtain ⟨v2, W2, hrun, hown2, hgrow, _⟩ := own_append elem_int (c := cap) (m := x.L.length) hown1 a (intsL x.L) (by simp [intsL]) (fun h => by
      rcases hz with hz | ⟨g, hg, _⟩
      · exact hz
      · rw [h] at hg; cases hg) hcL (fun u hu => by obtain ⟨z, _, rfl⟩ := List.mem_map.1 hu; rfl) (by unfold maxLen; omega) (by omega) (by simp) 87
  simp only [Array.toList_empty, List.nil_append, Nat.zero_add] at hown2
  obtain ⟨a2, cap2, rfl, _, hz2⟩ := own_form hown2
  have hB2 : Below W0.heap.size W0 W2 := ((Below.refl _ W0).alloc (Nat.le_refl _) _).grown hgrow (by simp) (fun k hk => (hown1.lt k hk).1)
  have hbx2 : ∀ y : Hi W2, y.W.heap[w.heap.size]? = some (.cells (sixL (.slice a x.L.length cap) x.gap p).toArray 89) := fun y => Hi.blk ((hB2.block _ (by omega)).trans hbx) y
  have hc1 : ∀ y : Hi W2, y.W.cell? ⟨w.heap.size, 1, none⟩ = some (.int .i64 x.gap) := fun y => blk_cell (hbx2 y) rfl
  have hc2 : ∀ y : Hi W2, y.W.cell? ⟨w.heap.size, 2, none⟩ = some (.string p) := fun y => blk_cell (hbx2 y) rfl
  have hc0 : ∀ y : Hi W2, y.W.cell? ⟨w.heap.size, 0, none⟩ = some (.slice a x.L.length cap) := fun y => blk_cell (hbx2 y) rfl
  have H0 : Hid _ := hrun
  have d0 : (W0.alloc (.cells #[] 3)).cell? ⟨w.heap.size, 0, none⟩ = some (.slice a x.L.length cap) := blk_cell (blk_alloc hbx _) rfl
  have e2 := hc2 (Hi.refl W2)
  have e1 := hc1 (Hi.refl W2)
  have e0 := hc0 (Hi.refl W2)
  simp only [Hi.refl] at e0 e1 e2
  have hB3 : Below w.heap.size w W2 := hB0.trans (hB2.mono (by omega))
  have hsz2 : w.heap.size + 1 ≤ W2.heap.size := by have := hB2.size; omega
  have HOWN : Hid _ := row_base hown2 (show w.heap.size + 1 ≤ W0.heap.size by omega)
  have HZ0 : Hid _ := hz0
  have HC1 : Hid _ := hc1
  have HC0 : Hid _ := hc0
  have HC2 : Hid _ := hc2
  clear hrun hown1 hgrow hcL hbxA hz0 hown hz hbx hB0 hown2 hbx2 hc1 hc0 hc2 hB2 hlen
  go_wp2_with (at_builtin; refine wpList_append_run rfl _ _ _ _ rfl rfl rfl H0.out ?_; clear H0)
  refine (HG.out W2).mono ?_
  rintro e W3 ⟨rfl, rfl⟩
  clear HG
  cases hgb : grpB x.part with
  | true =>
    have HV : Hid _ := HGV.out hgb
    have HEG : Hid (givenG x = some (x.L ++ [valF x.part])) := by
      have : givenG x = some (x.L ++ [valF x.part]) := by unfold givenG; rw [if_pos hgb]
      exact this
    obtain ⟨v3, U, hrun3, hown3, hgrow3⟩ := own_num HOWN.out hsz2 (by omega) (valF x.part) 87
    have hBU : Below (w.heap.size + 1) W3 U := below_grown (Below.refl _ _) HOWN.out hgrow3 hsz2
    have eU : U.cell? ⟨w.heap.size, 1, none⟩ = some (.int .i64 x.gap) := (hBU.cell (p := ⟨w.heap.size, 1, none⟩) (Nat.lt_succ_self _)).trans e1
    have H0 : Hid _ := hrun3
    have HBU : Hid (Below w.heap.size w U) := hB3.trans (hBU.mono (Nat.le_succ _))
    have hsU : w.heap.size + 1 ≤ U.heap.size := Nat.le_trans hsz2 hBU.size
    have HOW3 : Hid _ := hown3
    clear HGV HWH HP4 hrun3 hown3 hgrow3 hBU
    obtain ⟨l, hl⟩ : ∃ l, l = x.L ++ [valF x.part] := ⟨_, rfl⟩
    rw [← hl] at HOW3 HEG
    have hlen3 : x.L.length + 1 = l.length := by rw [hl]; simp
    obtain ⟨la, lc, rfl, _⟩ := own_form HOW3.out
    have hfin := HG6.out HEG.out
    have HW6 : Hid (whole6 x = if x.gap < 0 then (if l.length = 8 then some l else none) else if l.length ≤ 7 then some (l.take x.gap.toNat ++ List.replicate (8 - l.length) 0 ++ l.drop x.gap.toNat) else none) := by
      have : whole6 x = if x.gap < 0 then (if l.length = 8 then some l else none) else if l.length ≤ 7 then some (l.take x.gap.toNat ++ List.replicate (8 - l.length) 0 ++ l.drop x.gap.toNat) else none := by unfold whole6; rw [HEG.out]
      exact this
    have HR : Hid _ := HOW3.out
    have eG : U.cell? ⟨w.heap.size, 1, none⟩ = some (.int .i64 x.gap) := eU
    clear HOW3 HEG hl eU
    have hl8 : ((l.length : Nat) : Int) ≤ 8 := by
      have := hfin.1
      have h8 : x.room ≤ 8 := by unfold SixS.room; split <;> omega
      omega
    by_cases hneg : x.gap < 0
    · have qn : decide (x.gap < 0) = true := decide_eq_true hneg
      by_cases h8 : l.length = 8
      · have q8 : ((l.length : Int) == 8) = true := by simp; omega
        have HWE : Hid _ := HW6.out.trans ((if_pos hneg).trans (if_pos h8))
        clear HW6 hfin h8
        go_wp2_with fail
        refine (HV.out W3).mono ?_
        rintro e w' ⟨rfl, rfl⟩
        go_wp2_with (at_builtin; refine wpList_append_run rfl _ _ _ _ rfl rfl rfl H0.out ?_; clear H0)
        rw [← HQ.out]
        exact Ans6.yes HWE.out rfl (row_base HR.out (by omega)) HBU.out
      · have q8 : ((l.length : Int) == 8) = false := by simp; omega
        have HWE : Hid _ := HW6.out.trans ((if_pos hneg).trans (if_neg h8))
        clear HW6 hfin h8
        go_wp2_with fail
        refine (HV.out W3).mono ?_
        rintro e w' ⟨rfl, rfl⟩
        go_wp2_with (at_builtin; refine wpList_append_run rfl _ _ _ _ rfl rfl rfl H0.out ?_; clear H0)
        rw [← HQ.out]
        exact Ans6.no HWE.out rfl HBU.out
    · obtain ⟨g, hgq⟩ : ∃ g : Nat, x.gap = (g : Int) := ⟨x.gap.toNat, by omega⟩
      have h77 : l.length ≤ 7 := by
        have := hfin.1
        unfold SixS.room at this
        rw [if_pos (by omega)] at this
        omega
      have hgl : g ≤ l.length := by have := hfin.2.1; omega
      have HWE : Hid (whole6 x = some (l.take g ++ List.replicate (8 - l.length) 0 ++ l.drop g)) := HW6.out.trans ((if_neg hneg).trans ((if_pos h77).trans (by rw [hgq]; rfl)))
      obtain ⟨_, _, hfe, _, hzl⟩ := own_form HR.out
      have hcl : ∀ (k : Nat) (hk : k < l.length), ∃ g3, la = some ⟨g3, 0, none⟩ ∧ g3 < U.heap.size ∧ U.cell? ⟨g3, k, none⟩ = some (.int .i64 l[k]) := fun k hk => by
        rcases hzl with hzl | ⟨g3, e3, _, hg3, hc3⟩
        · omega
        · simp at hfe
          rw [← hfe.1] at e3
          exact ⟨g3, e3, hg3, hc3 k _ (by rw [intsL, List.getElem?_map, List.getElem?_eq_getElem hk]; rfl)⟩
      have HCL : Hid _ := hcl
      rw [hgq] at eG
      have hq7 : (l.length : Int) ≤ 7 := by omega
      have qng : decide ((g : Int) < 0) = false := decide_eq_false (by omega)
      clear HW6 hfin hzl hfe hcl hneg hgq
      go_wp2_with fail
      refine (HV.out W3).mono ?_
      rintro e w' ⟨rfl, rfl⟩
      go_wp2_with (at_builtin; refine wpList_append_run rfl _ _ _ _ rfl rfl rfl H0.out ?_; clear H0)
      go_loopw [10, 11] (fun out i wr => ∃ k : Nat, k ≤ l.length + 1 ∧ i = .int .i64 k ∧ wr.ownsRow U.heap.size 3 1 out (outK l g k).length (intsL (outK l g k)) ∧ Below U.heap.size U wr) (fun _ i _ => l.length + 1 - (intOf i).toNat)
      case atStart => exact ⟨0, Nat.zero_le _, rfl, by unfold outK; rw [if_pos (Nat.zero_le _)]; exact World.ownsRow_nil _ _ _ _, Below.refl _ _⟩
      case round =>
        obtain ⟨k, hk, rfl, hout, hBr⟩ := hrel
        have hszr := hBr.size
        have f1 := (hBr.cell (p := ⟨w.heap.size, 1, none⟩) (by show w.heap.size < U.heap.size; omega)).trans eG
        by_cases hlt : k ≤ l.length
        · have hmk := outK_len l g k h77
          have hqk : (k : Int) ≤ (l.length : Int) := by omega
          by_cases hkn : k = g
          · subst hkn
            have hst : outK l k k = l.take k := by unfold outK; rw [if_pos (Nat.le_refl _)]
            rw [hst] at hout
            have HO : Hid _ := hout
            have HBR : Hid _ := hBr
            clear hout f1
            go_wp2
            go_loopw [10, 12] (fun out j wr => ∃ m : Nat, m ≤ 8 - l.length ∧ j = .int .i64 (l.length + m : Nat) ∧ wr.ownsRow U.heap.size 3 1 out (l.take k ++ List.replicate m 0).length (intsL (l.take k ++ List.replicate m 0)) ∧ Below U.heap.size U wr) (fun _ j _ => 8 - (intOf j).toNat)
            case atStart => exact ⟨0, Nat.zero_le _, by simp, by rw [List.replicate_zero, List.append_nil]; exact HO.out, HBR.out⟩
            case round =>
              clear HO
              obtain ⟨m, hm, rfl, hou, hBq⟩ := hrel
              have hszq := hBq.size
              have f2 : wr.cell? ⟨w.heap.size, 1, none⟩ = some (.int .i64 (k : Int)) := (hBq.cell (p := ⟨w.heap.size, 1, none⟩) (by show w.heap.size < U.heap.size; omega)).trans eG
              by_cases hm8 : l.length + m < 8
              · obtain ⟨v', w1, hrun, hown', hgrow⟩ := own_num hou hszq (by simp; omega) 0 87
                have hB1 := below_grown hBq hou hgrow hszq
                have e : l.take k ++ List.replicate m 0 ++ [0] = l.take k ++ List.replicate (m + 1) 0 := by rw [List.append_assoc, List.replicate_succ']
                rw [e] at hown'
                have H0 : Hid _ := hrun
                have HO : Hid _ := hown'
                have HB1 : Hid _ := hB1
                have hq : ((l.length + m : Nat) : Int) < 8 := by omega
                clear hrun hown' hB1 hou e
                go_wp2_with (at_builtin; refine wpList_append_run rfl _ _ _ _ rfl rfl rfl H0.out ?_; clear H0)
                exact ⟨⟨m + 1, by omega, by simp; omega, HO.out, HB1.out⟩, by simp [intOf]; omega⟩
              · obtain rfl : m = 8 - l.length := by omega
                have hq : ¬ ((l.length + (8 - l.length) : Nat) : Int) < 8 := by omega
                by_cases hkl : k < l.length
                · obtain ⟨g3, e3, hg3, hc3⟩ := HCL.out k hkl
                  have hck := (hBq.cell (p := ⟨g3, k, none⟩) hg3).trans hc3
                  have hx := List.getElem?_eq_getElem hkl
                  have hmn := midK_next l k k _ hgl hx
                  have hmo : midK l k k = l.take k ++ List.replicate (8 - l.length) 0 := by unfold midK; rw [if_pos rfl]
                  rw [hmo] at hmn
                  obtain ⟨v', w1, hrun, hown', hgrow⟩ := own_num hou hszq (by simp; omega) l[k] 87
                  have hB1 := below_grown hBq hou hgrow hszq
                  rw [hmn] at hown'
                  have H0 : Hid _ := hrun
                  have HO : Hid _ := hown'
                  have HB1 : Hid _ := hB1
                  have hq2 : (k : Int) < (l.length : Int) := by omega
                  subst e3
                  clear hrun hown' hB1 hmn hmo hx hou hc3 HCL HR
                  generalize l[k] = z at *
                  go_wp2_with (at_builtin; refine wpList_append_run rfl _ _ _ _ rfl rfl rfl H0.out ?_; clear H0)
                  exact ⟨⟨k + 1, by omega, by simp, HO.out, HB1.out⟩, by simp [intOf]; omega⟩
                · obtain rfl : k = l.length := by omega
                  have ho : l.take l.length ++ List.replicate (8 - l.length) 0 = outK l l.length (l.length + 1) := by
                    rw [outK_all l l.length (Nat.le_refl _), List.drop_length, List.append_nil]
                  rw [ho] at hou
                  have HO : Hid _ := hou
                  have hq2 : ¬ (l.length : Int) < (l.length : Int) := by omega
                  clear hou ho
                  go_wp2
                  exact ⟨⟨l.length + 1, by omega, by simp, HO.out, hBq⟩, by simp [intOf]⟩
          · have hq : ((k : Int) == (g : Int)) = false := by simp; omega
            by_cases hkl : k < l.length
            · obtain ⟨g3, e3, hg3, hc3⟩ := HCL.out k hkl
              have hck := (hBr.cell (p := ⟨g3, k, none⟩) hg3).trans hc3
              have hx := List.getElem?_eq_getElem hkl
              have hmn := midK_next l g k _ hgl hx
              have hmo : midK l g k = outK l g k := by unfold midK; rw [if_neg hkn]
              rw [hmo] at hmn
              obtain ⟨v', w1, hrun, hown', hgrow⟩ := own_num hout hszr (by omega) l[k] 87
              have hB1 := below_grown hBr hout hgrow hszr
              rw [hmn] at hown'
              have H0 : Hid _ := hrun
              have HO : Hid _ := hown'
              have HB1 : Hid _ := hB1
              have hq2 : (k : Int) < (l.length : Int) := by omega
              subst e3
              clear hrun hown' hB1 hmn hmo hx hout hc3 HCL HR
              generalize l[k] = z at *
              go_wp2
              go_loopw [10, 12] (fun out j wr' => out = u10 ∧ j = .int .i64 (l.length : Int) ∧ wr' = wr) (fun _ j _ => 0)
              case atStart => exact ⟨rfl, rfl, rfl⟩
              case round =>
                obtain ⟨rfl, rfl, rfl⟩ := hrel
                go_wp2_with (at_builtin; refine wpList_append_run rfl _ _ _ _ rfl rfl rfl H0.out ?_; clear H0)
                exact ⟨⟨k + 1, by omega, by simp, HO.out, HB1.out⟩, by simp [intOf]; omega⟩
            · obtain rfl : k = l.length := by omega
              have hmo : outK l g l.length = outK l g (l.length + 1) := by
                rw [← midK_last l g hgl]
                unfold midK
                rw [if_neg hkn]
              rw [hmo] at hout
              have HO : Hid _ := hout
              have HBR : Hid _ := hBr
              have hq2 : ¬ (l.length : Int) < (l.length : Int) := by omega
              clear hout hmo
              go_wp2
              go_loopw [10, 12] (fun out j wr' => out = u10 ∧ j = .int .i64 (l.length : Int) ∧ wr' = wr) (fun _ j _ => 0)
              case atStart => exact ⟨rfl, rfl, rfl⟩
              case round =>
                obtain ⟨rfl, rfl, rfl⟩ := hrel
                go_wp2
                exact ⟨⟨l.length + 1, by omega, by simp, HO.out, HBR.out⟩, by simp [intOf]⟩
        · obtain rfl : k = l.length + 1 := by omega
          rw [outK_all l g hgl] at hout
          have HO : Hid _ := hout
          have HBR : Hid _ := hBr
          have hqk : ¬ ((l.length + 1 : Nat) : Int) ≤ (l.length : Int) := by omega
          clear hout HCL
          go_wp2
          rw [← HQ.out]
          exact Ans6.yes HWE.out rfl (row_base HO.out (by omega)) (HBU.out.trans (HBR.out.mono (by omega)))
  | false =>
    by_cases hpe : x.part = []
    · have hse := toList_none p ((txt_empty p).1 (by rw [HP.out]; exact hpe))
      by_cases hgg : 0 ≤ x.gap ∧ x.gap = x.L.length
      · skip
        have HEG : Hid (givenG x = some x.L) := by
          have : givenG x = some x.L := by unfold givenG; rw [hgb, if_neg (by simp), if_neg (fun k => k.1 hpe), if_pos ⟨hpe, hgg⟩]
          exact this
        have qg : (x.gap == (x.L.length : Int)) = true := by simpa using hgg.2
        have qg0 := hgg.1
        have HOW3 : Hid _ := HOWN.out
        have HBU : Hid (Below w.heap.size w W3) := hB3
        have hsU := hsz2
        clear HGV HWH HP4
        have hfin := HG6.out HEG.out
        have HW6 : Hid (whole6 x = if x.gap < 0 then (if x.L.length = 8 then some x.L else none) else if x.L.length ≤ 7 then some (x.L.take x.gap.toNat ++ List.replicate (8 - x.L.length) 0 ++ x.L.drop x.gap.toNat) else none) := by
          have : whole6 x = if x.gap < 0 then (if x.L.length = 8 then some x.L else none) else if x.L.length ≤ 7 then some (x.L.take x.gap.toNat ++ List.replicate (8 - x.L.length) 0 ++ x.L.drop x.gap.toNat) else none := by unfold whole6; rw [HEG.out]
          exact this
        have HR : Hid _ := HOW3.out
        have eG := e1
        clear HOW3 HEG
        have hl8 : ((x.L.length : Nat) : Int) ≤ 8 := by
          have := hfin.1
          have h8 : x.room ≤ 8 := by unfold SixS.room; split <;> omega
          omega
        have hneg : ¬ x.gap < 0 := by omega
        obtain ⟨g, hgq⟩ : ∃ g : Nat, x.gap = (g : Int) := ⟨x.gap.toNat, by omega⟩
        have h77 : x.L.length ≤ 7 := by
          have := hfin.1
          unfold SixS.room at this
          rw [if_pos (by omega)] at this
          omega
        have hgl : g ≤ x.L.length := by have := hfin.2.1; omega
        have HWE : Hid (whole6 x = some (x.L.take g ++ List.replicate (8 - x.L.length) 0 ++ x.L.drop g)) := HW6.out.trans ((if_neg hneg).trans ((if_pos h77).trans (by rw [hgq]; rfl)))
        obtain ⟨_, _, hfe, _, hzl⟩ := own_form HR.out
        have hcl : ∀ (k : Nat) (hk : k < x.L.length), ∃ g3, a2 = some ⟨g3, 0, none⟩ ∧ g3 < W3.heap.size ∧ W3.cell? ⟨g3, k, none⟩ = some (.int .i64 x.L[k]) := fun k hk => by
          rcases hzl with hzl | ⟨g3, e3, _, hg3, hc3⟩
          · omega
          · simp at hfe
            rw [← hfe.1] at e3
            exact ⟨g3, e3, hg3, hc3 k _ (by rw [intsL, List.getElem?_map, List.getElem?_eq_getElem hk]; rfl)⟩
        have HCL : Hid _ := hcl
        rw [hgq] at eG
        have hq7 : (x.L.length : Int) ≤ 7 := by omega
        have qng : decide ((g : Int) < 0) = false := decide_eq_false (by omega)
        clear HW6 hfin hzl hfe hcl hneg hgq
        go_wp2
        go_loopw [10, 11] (fun out i wr => ∃ k : Nat, k ≤ x.L.length + 1 ∧ i = .int .i64 k ∧ wr.ownsRow W3.heap.size 3 1 out (outK x.L g k).length (intsL (outK x.L g k)) ∧ Below W3.heap.size W3 wr) (fun _ i _ => x.L.length + 1 - (intOf i).toNat)
        case atStart => exact ⟨0, Nat.zero_le _, rfl, by unfold outK; rw [if_pos (Nat.zero_le _)]; exact World.ownsRow_nil _ _ _ _, Below.refl _ _⟩
        case round =>
          obtain ⟨k, hk, rfl, hout, hBr⟩ := hrel
          have hszr := hBr.size
          have f1 := (hBr.cell (p := ⟨w.heap.size, 1, none⟩) (by show w.heap.size < W3.heap.size; omega)).trans eG
          by_cases hlt : k ≤ x.L.length
          · have hmk := outK_len x.L g k h77
            have hqk : (k : Int) ≤ (x.L.length : Int) := by omega
            by_cases hkn : k = g
            · subst hkn
              have hst : outK x.L k k = x.L.take k := by unfold outK; rw [if_pos (Nat.le_refl _)]
              rw [hst] at hout
              have HO : Hid _ := hout
              have HBR : Hid _ := hBr
              clear hout f1
              go_wp2
              go_loopw [10, 12] (fun out j wr => ∃ m : Nat, m ≤ 8 - x.L.length ∧ j = .int .i64 (x.L.length + m : Nat) ∧ wr.ownsRow W3.heap.size 3 1 out (x.L.take k ++ List.replicate m 0).length (intsL (x.L.take k ++ List.replicate m 0)) ∧ Below W3.heap.size W3 wr) (fun _ j _ => 8 - (intOf j).toNat)
              case atStart => exact ⟨0, Nat.zero_le _, by simp, by rw [List.replicate_zero, List.append_nil]; exact HO.out, HBR.out⟩
              case round =>
                clear HO
                obtain ⟨m, hm, rfl, hou, hBq⟩ := hrel
                have hszq := hBq.size
                have f2 : wr.cell? ⟨w.heap.size, 1, none⟩ = some (.int .i64 (k : Int)) := (hBq.cell (p := ⟨w.heap.size, 1, none⟩) (by show w.heap.size < W3.heap.size; omega)).trans eG
                by_cases hm8 : x.L.length + m < 8
                · obtain ⟨v', w1, hrun, hown', hgrow⟩ := own_num hou hszq (by simp; omega) 0 87
                  have hB1 := below_grown hBq hou hgrow hszq
                  have e : x.L.take k ++ List.replicate m 0 ++ [0] = x.L.take k ++ List.replicate (m + 1) 0 := by rw [List.append_assoc, List.replicate_succ']
                  rw [e] at hown'
                  have H0 : Hid _ := hrun
                  have HO : Hid _ := hown'
                  have HB1 : Hid _ := hB1
                  have hq : ((x.L.length + m : Nat) : Int) < 8 := by omega
                  clear hrun hown' hB1 hou e
                  go_wp2_with (at_builtin; refine wpList_append_run rfl _ _ _ _ rfl rfl rfl H0.out ?_; clear H0)
                  exact ⟨⟨m + 1, by omega, by simp; omega, HO.out, HB1.out⟩, by simp [intOf]; omega⟩
                · obtain rfl : m = 8 - x.L.length := by omega
                  have hq : ¬ ((x.L.length + (8 - x.L.length) : Nat) : Int) < 8 := by omega
                  by_cases hkl : k < x.L.length
                  · obtain ⟨g3, e3, hg3, hc3⟩ := HCL.out k hkl
                    have hck := (hBq.cell (p := ⟨g3, k, none⟩) hg3).trans hc3
                    have hx := List.getElem?_eq_getElem hkl
                    have hmn := midK_next x.L k k _ hgl hx
                    have hmo : midK x.L k k = x.L.take k ++ List.replicate (8 - x.L.length) 0 := by unfold midK; rw [if_pos rfl]
                    rw [hmo] at hmn
                    obtain ⟨v', w1, hrun, hown', hgrow⟩ := own_num hou hszq (by simp; omega) x.L[k] 87
                    have hB1 := below_grown hBq hou hgrow hszq
                    rw [hmn] at hown'
                    have H0 : Hid _ := hrun
                    have HO : Hid _ := hown'
                    have HB1 : Hid _ := hB1
                    have hq2 : (k : Int) < (x.L.length : Int) := by omega
                    subst e3
                    clear hrun hown' hB1 hmn hmo hx hou hc3 HCL HR
                    generalize x.L[k] = z at *
                    go_wp2_with (at_builtin; refine wpList_append_run rfl _ _ _ _ rfl rfl rfl H0.out ?_; clear H0)
                    exact ⟨⟨k + 1, by omega, by simp, HO.out, HB1.out⟩, by simp [intOf]; omega⟩
                  · obtain rfl : k = x.L.length := by omega
                    have ho : x.L.take x.L.length ++ List.replicate (8 - x.L.length) 0 = outK x.L x.L.length (x.L.length + 1) := by
                      rw [outK_all x.L x.L.length (Nat.le_refl _), List.drop_length, List.append_nil]
                    rw [ho] at hou
                    have HO : Hid _ := hou
                    have hq2 : ¬ (x.L.length : Int) < (x.L.length : Int) := by omega
                    clear hou ho
                    go_wp2
                    exact ⟨⟨x.L.length + 1, by omega, by simp, HO.out, hBq⟩, by simp [intOf]⟩
            · have hq : ((k : Int) == (g : Int)) = false := by simp; omega
              by_cases hkl : k < x.L.length
              · obtain ⟨g3, e3, hg3, hc3⟩ := HCL.out k hkl
                have hck := (hBr.cell (p := ⟨g3, k, none⟩) hg3).trans hc3
                have hx := List.getElem?_eq_getElem hkl
                have hmn := midK_next x.L g k _ hgl hx
                have hmo : midK x.L g k = outK x.L g k := by unfold midK; rw [if_neg hkn]
                rw [hmo] at hmn
                obtain ⟨v', w1, hrun, hown', hgrow⟩ := own_num hout hszr (by omega) x.L[k] 87
                have hB1 := below_grown hBr hout hgrow hszr
                rw [hmn] at hown'
                have H0 : Hid _ := hrun
                have HO : Hid _ := hown'
                have HB1 : Hid _ := hB1
                have hq2 : (k : Int) < (x.L.length : Int) := by omega
                subst e3
                clear hrun hown' hB1 hmn hmo hx hout hc3 HCL HR
                generalize x.L[k] = z at *
                go_wp2
                go_loopw [10, 12] (fun out j wr' => out = u10 ∧ j = .int .i64 (x.L.length : Int) ∧ wr' = wr) (fun _ j _ => 0)
                case atStart => exact ⟨rfl, rfl, rfl⟩
                case round =>
                  obtain ⟨rfl, rfl, rfl⟩ := hrel
                  go_wp2_with (at_builtin; refine wpList_append_run rfl _ _ _ _ rfl rfl rfl H0.out ?_; clear H0)
                  exact ⟨⟨k + 1, by omega, by simp, HO.out, HB1.out⟩, by simp [intOf]; omega⟩
              · obtain rfl : k = x.L.length := by omega
                have hmo : outK x.L g x.L.length = outK x.L g (x.L.length + 1) := by
                  rw [← midK_last x.L g hgl]
                  unfold midK
                  rw [if_neg hkn]
                rw [hmo] at hout
                have HO : Hid _ := hout
                have HBR : Hid _ := hBr
                have hq2 : ¬ (x.L.length : Int) < (x.L.length : Int) := by omega
                clear hout hmo
                go_wp2
                go_loopw [10, 12] (fun out j wr' => out = u10 ∧ j = .int .i64 (x.L.length : Int) ∧ wr' = wr) (fun _ j _ => 0)
                case atStart => exact ⟨rfl, rfl, rfl⟩
                case round =>
                  obtain ⟨rfl, rfl, rfl⟩ := hrel
                  go_wp2
                  exact ⟨⟨x.L.length + 1, by omega, by simp, HO.out, HBR.out⟩, by simp [intOf]⟩
          · obtain rfl : k = x.L.length + 1 := by omega
            rw [outK_all x.L g hgl] at hout
            have HO : Hid _ := hout
            have HBR : Hid _ := hBr
            have hqk : ¬ ((x.L.length + 1 : Nat) : Int) ≤ (x.L.length : Int) := by omega
            clear hout HCL
            go_wp2
            rw [← HQ.out]
            exact Ans6.yes HWE.out rfl (row_base HO.out (by omega)) (HBU.out.trans (HBR.out.mono (by omega)))
      · skip
        have HEG : Hid (whole6 x = none) := by
          have : whole6 x = none := by unfold whole6 givenG; rw [hgb, if_neg (by simp), if_neg (fun k => k.1 hpe), if_neg (fun k => hgg k.2)]
          exact this
        clear HGV HWH HP4
        by_cases hg0 : 0 ≤ x.gap
        · have qg : (x.gap == (x.L.length : Int)) = false := by simp; intro k; exact hgg ⟨hg0, k⟩
          go_wp2
          rw [← HQ.out]
          exact Ans6.no HEG.out rfl hB3
        · go_wp2
          rw [← HQ.out]
          exact Ans6.no HEG.out rfl hB3
    · have hse := toList_empty p (fun k => hpe (by rw [← HP.out]; exact (txt_empty p).2 k))
      cases hwb : whoB x.part with
      | false =>
        have HEG : Hid (whole6 x = none) := by
          have : whole6 x = none := by unfold whole6 givenG; rw [hgb, if_neg (by simp), if_neg (fun k => by rw [hwb] at k; exact absurd k.2 (by simp)), if_neg (fun k => hpe k.1)]
          exact this
        have hwf : Calls Tryd.prog 51 #[.string p] W3 fun e w' => e = .returned (.bool false) ∧ Below W3.heap.size W3 w' := by
          have := HWH.out W3
          rw [HP.out, hwb] at this
          exact this
        have HWF : Hid _ := hwf
        clear HGV HWH HP4 hwf
        go_wp2_with fail
        refine Calls.mono HWF.out ?_
        rintro e w4 ⟨rfl, hb4⟩
        have HBE : Hid (Below w.heap.size w w4) := hB3.trans (hb4.mono hB3.size)
        have k2 : w4.cell? ⟨w.heap.size, 2, none⟩ = some (.string p) := HC2.out ⟨w4, hb4⟩
        clear HWF hb4
        go_wp2
        rw [← HQ.out]
        exact Ans6.no HEG.out rfl HBE.out
      | true =>
        have HEG : Hid (givenG x = some (x.L ++ (match (rparse4 x.part).1 with | [a, b, c, d] => [a * 256 + b, c * 256 + d] | _ => []))) := by
          have : givenG x = some (x.L ++ (match (rparse4 x.part).1 with | [a, b, c, d] => [a * 256 + b, c * 256 + d] | _ => [])) := by unfold givenG; rw [hgb, if_neg (by simp), if_pos ⟨hpe, hwb⟩]; rfl
          exact this
        have hbeg : begB x.part = true := by
          have := hwb
          unfold whoB at this
          simp only [Bool.and_eq_true] at this
          exact this.1
        have hn := begN_full x.part hbeg x.part.length 0 (by omega)
        obtain ⟨z0, z1, z2, z3, e4, b0, b1, b2, b3⟩ := takes_parts x.part hwb
        have hr4 : rparse4 x.part = ([z0, z1, z2, z3], 0, 0) := by
          unfold rparse4
          simp only
          rw [hn, if_neg (by simp [hwb]), e4]
        rw [hr4] at HEG
        have hwf : Calls Tryd.prog 51 #[.string p] W3 fun e w' => e = .returned (.bool true) ∧ Below W3.heap.size W3 w' := by
          have := HWH.out W3
          rw [HP.out, hwb] at this
          exact this
        have hpf : ∀ W, Calls Tryd.prog 14 #[.string p] W fun e w' => e = .returned (.tuple #[.agg #[.int .u8 z0, .int .u8 z1, .int .u8 z2, .int .u8 z3], .int .i64 0, .int .i64 0]) ∧ Below W.heap.size W w' := fun W => by
          have := HP4.out W
          unfold Par4Post at this
          rw [HP.out, hr4] at this
          exact this
        have HWF : Hid _ := hwf
        have HPF : Hid _ := hpf
        clear HGV HWH HP4 hwf hpf hn e4 hr4 hbeg
        go_wp2_with fail
        refine Calls.mono HWF.out ?_
        rintro e w4 ⟨rfl, hb4⟩
        have k2 : w4.cell? ⟨w.heap.size, 2, none⟩ = some (.string p) := HC2.out ⟨w4, hb4⟩
        have hB4 := hb4
        clear HWF hb4
        go_wp2_with fail
        refine Calls.mono (HPF.out _) ?_
        rintro e w5 ⟨rfl, hb5⟩
        obtain ⟨w6, hw6⟩ : ∃ w6, w6 = w5.alloc (.cells #[.int .u8 z0, .int .u8 z1, .int .u8 z2, .int .u8 z3] 23) := ⟨_, rfl⟩
        have hB6 : Below W3.heap.size W3 w6 := by rw [hw6]; exact (hB4.trans (hb5.mono hB4.size)).alloc (hB4.trans (hb5.mono hB4.size)).size _
        have hrow6 := row_kept HOWN.out (fun g _ hg => hB6.block g hg)
        have hs6 : w.heap.size + 1 ≤ w6.heap.size := Nat.le_trans hsz2 hB6.size
        obtain ⟨v3, U, hrun3, hown3, hgrow3⟩ := own_num2 hrow6 hs6 (by omega) (z0 * 256 + z1) (z2 * 256 + z3) 87
        have hBU : Below (w.heap.size + 1) W3 U := (hB6.mono hsz2).trans (below_grown (Below.refl _ _) hrow6 hgrow3 hs6)
        have eU : U.cell? ⟨w.heap.size, 1, none⟩ = some (.int .i64 x.gap) := (hBU.cell (p := ⟨w.heap.size, 1, none⟩) (Nat.lt_succ_self _)).trans e1
        have hsz6 : w6.heap.size = w5.heap.size + 1 := by rw [hw6]; simp
        rw [hsz6, hw6] at hrun3
        clear hsz6
        have H0 : Hid _ := hrun3
        have HBU : Hid (Below w.heap.size w U) := hB3.trans (hBU.mono (Nat.le_succ _))
        have hsU : w.heap.size + 1 ≤ U.heap.size := Nat.le_trans hsz2 hBU.size
        have HOW3 : Hid _ := hown3
        clear HPF hrun3 hown3 hgrow3 hBU hrow6 hB6 hw6 hs6 hb5
        obtain ⟨l, hl⟩ : ∃ l, l = x.L ++ [z0 * 256 + z1, z2 * 256 + z3] := ⟨_, rfl⟩
        rw [← hl] at HOW3 HEG
        have hlen3 : x.L.length + 2 = l.length := by rw [hl]; simp
        obtain ⟨la, lc, rfl, _⟩ := own_form HOW3.out
        have hfin := HG6.out HEG.out
        have HW6 : Hid (whole6 x = if x.gap < 0 then (if l.length = 8 then some l else none) else if l.length ≤ 7 then some (l.take x.gap.toNat ++ List.replicate (8 - l.length) 0 ++ l.drop x.gap.toNat) else none) := by
          have : whole6 x = if x.gap < 0 then (if l.length = 8 then some l else none) else if l.length ≤ 7 then some (l.take x.gap.toNat ++ List.replicate (8 - l.length) 0 ++ l.drop x.gap.toNat) else none := by unfold whole6; rw [HEG.out]
          exact this
        have HR : Hid _ := HOW3.out
        have eG : U.cell? ⟨w.heap.size, 1, none⟩ = some (.int .i64 x.gap) := eU
        clear HOW3 HEG hl eU
        have hl8 : ((l.length : Nat) : Int) ≤ 8 := by
          have := hfin.1
          have h8 : x.room ≤ 8 := by unfold SixS.room; split <;> omega
          omega
        by_cases hneg : x.gap < 0
        · have qn : decide (x.gap < 0) = true := decide_eq_true hneg
          by_cases h8 : l.length = 8
          · have q8 : ((l.length : Int) == 8) = true := by simp; omega
            have HWE : Hid _ := HW6.out.trans ((if_pos hneg).trans (if_pos h8))
            clear HW6 hfin h8
            go_wp2_with (at_builtin; refine wpList_append_run rfl _ _ _ _ rfl rfl rfl H0.out ?_; clear H0)
            rw [← HQ.out]
            exact Ans6.yes HWE.out rfl (row_base HR.out (by omega)) HBU.out
          · have q8 : ((l.length : Int) == 8) = false := by simp; omega
            have HWE : Hid _ := HW6.out.trans ((if_pos hneg).trans (if_neg h8))
            clear HW6 hfin h8
            go_wp2_with (at_builtin; refine wpList_append_run rfl _ _ _ _ rfl rfl rfl H0.out ?_; clear H0)
            rw [← HQ.out]
            exact Ans6.no HWE.out rfl HBU.out
        · obtain ⟨g, hgq⟩ : ∃ g : Nat, x.gap = (g : Int) := ⟨x.gap.toNat, by omega⟩
          have h77 : l.length ≤ 7 := by
            have := hfin.1
            unfold SixS.room at this
            rw [if_pos (by omega)] at this
            omega
          have hgl : g ≤ l.length := by have := hfin.2.1; omega
          have HWE : Hid (whole6 x = some (l.take g ++ List.replicate (8 - l.length) 0 ++ l.drop g)) := HW6.out.trans ((if_neg hneg).trans ((if_pos h77).trans (by rw [hgq]; rfl)))
          obtain ⟨_, _, hfe, _, hzl⟩ := own_form HR.out
          have hcl : ∀ (k : Nat) (hk : k < l.length), ∃ g3, la = some ⟨g3, 0, none⟩ ∧ g3 < U.heap.size ∧ U.cell? ⟨g3, k, none⟩ = some (.int .i64 l[k]) := fun k hk => by
            rcases hzl with hzl | ⟨g3, e3, _, hg3, hc3⟩
            · omega
            · simp at hfe
              rw [← hfe.1] at e3
              exact ⟨g3, e3, hg3, hc3 k _ (by rw [intsL, List.getElem?_map, List.getElem?_eq_getElem hk]; rfl)⟩
          have HCL : Hid _ := hcl
          rw [hgq] at eG
          have hq7 : (l.length : Int) ≤ 7 := by omega
          have qng : decide ((g : Int) < 0) = false := decide_eq_false (by omega)
          clear HW6 hfin hzl hfe hcl hneg hgq
          go_wp2_with (at_builtin; refine wpList_append_run rfl _ _ _ _ rfl rfl rfl H0.out ?_; clear H0)
          go_loopw [10, 11] (fun out i wr => ∃ k : Nat, k ≤ l.length + 1 ∧ i = .int .i64 k ∧ wr.ownsRow U.heap.size 3 1 out (outK l g k).length (intsL (outK l g k)) ∧ Below U.heap.size U wr) (fun _ i _ => l.length + 1 - (intOf i).toNat)
          case atStart => exact ⟨0, Nat.zero_le _, rfl, by unfold outK; rw [if_pos (Nat.zero_le _)]; exact World.ownsRow_nil _ _ _ _, Below.refl _ _⟩
          case round =>
            obtain ⟨k, hk, rfl, hout, hBr⟩ := hrel
            have hszr := hBr.size
            have f1 := (hBr.cell (p := ⟨w.heap.size, 1, none⟩) (by show w.heap.size < U.heap.size; omega)).trans eG
            by_cases hlt : k ≤ l.length
            · have hmk := outK_len l g k h77
              have hqk : (k : Int) ≤ (l.length : Int) := by omega
              by_cases hkn : k = g
              · subst hkn
                have hst : outK l k k = l.take k := by unfold outK; rw [if_pos (Nat.le_refl _)]
                rw [hst] at hout
                have HO : Hid _ := hout
                have HBR : Hid _ := hBr
                clear hout f1
                go_wp2
                go_loopw [10, 12] (fun out j wr => ∃ m : Nat, m ≤ 8 - l.length ∧ j = .int .i64 (l.length + m : Nat) ∧ wr.ownsRow U.heap.size 3 1 out (l.take k ++ List.replicate m 0).length (intsL (l.take k ++ List.replicate m 0)) ∧ Below U.heap.size U wr) (fun _ j _ => 8 - (intOf j).toNat)
                case atStart => exact ⟨0, Nat.zero_le _, by simp, by rw [List.replicate_zero, List.append_nil]; exact HO.out, HBR.out⟩
                case round =>
                  clear HO
                  obtain ⟨m, hm, rfl, hou, hBq⟩ := hrel
                  have hszq := hBq.size
                  have f2 : wr.cell? ⟨w.heap.size, 1, none⟩ = some (.int .i64 (k : Int)) := (hBq.cell (p := ⟨w.heap.size, 1, none⟩) (by show w.heap.size < U.heap.size; omega)).trans eG
                  by_cases hm8 : l.length + m < 8
                  · obtain ⟨v', w1, hrun, hown', hgrow⟩ := own_num hou hszq (by simp; omega) 0 87
                    have hB1 := below_grown hBq hou hgrow hszq
                    have e : l.take k ++ List.replicate m 0 ++ [0] = l.take k ++ List.replicate (m + 1) 0 := by rw [List.append_assoc, List.replicate_succ']
                    rw [e] at hown'
                    have H0 : Hid _ := hrun
                    have HO : Hid _ := hown'
                    have HB1 : Hid _ := hB1
                    have hq : ((l.length + m : Nat) : Int) < 8 := by omega
                    clear hrun hown' hB1 hou e
                    go_wp2_with (at_builtin; refine wpList_append_run rfl _ _ _ _ rfl rfl rfl H0.out ?_; clear H0)
                    exact ⟨⟨m + 1, by omega, by simp; omega, HO.out, HB1.out⟩, by simp [intOf]; omega⟩
                  · obtain rfl : m = 8 - l.length := by omega
                    have hq : ¬ ((l.length + (8 - l.length) : Nat) : Int) < 8 := by omega
                    by_cases hkl : k < l.length
                    · obtain ⟨g3, e3, hg3, hc3⟩ := HCL.out k hkl
                      have hck := (hBq.cell (p := ⟨g3, k, none⟩) hg3).trans hc3
                      have hx := List.getElem?_eq_getElem hkl
                      have hmn := midK_next l k k _ hgl hx
                      have hmo : midK l k k = l.take k ++ List.replicate (8 - l.length) 0 := by unfold midK; rw [if_pos rfl]
                      rw [hmo] at hmn
                      obtain ⟨v', w1, hrun, hown', hgrow⟩ := own_num hou hszq (by simp; omega) l[k] 87
                      have hB1 := below_grown hBq hou hgrow hszq
                      rw [hmn] at hown'
                      have H0 : Hid _ := hrun
                      have HO : Hid _ := hown'
                      have HB1 : Hid _ := hB1
                      have hq2 : (k : Int) < (l.length : Int) := by omega
                      subst e3
                      clear hrun hown' hB1 hmn hmo hx hou hc3 HCL HR
                      generalize l[k] = z at *
                      go_wp2_with (at_builtin; refine wpList_append_run rfl _ _ _ _ rfl rfl rfl H0.out ?_; clear H0)
                      exact ⟨⟨k + 1, by omega, by simp, HO.out, HB1.out⟩, by simp [intOf]; omega⟩
                    · obtain rfl : k = l.length := by omega
                      have ho : l.take l.length ++ List.replicate (8 - l.length) 0 = outK l l.length (l.length + 1) := by
                        rw [outK_all l l.length (Nat.le_refl _), List.drop_length, List.append_nil]
                      rw [ho] at hou
                      have HO : Hid _ := hou
                      have hq2 : ¬ (l.length : Int) < (l.length : Int) := by omega
                      clear hou ho
                      go_wp2
                      exact ⟨⟨l.length + 1, by omega, by simp, HO.out, hBq⟩, by simp [intOf]⟩
              · have hq : ((k : Int) == (g : Int)) = false := by simp; omega
                by_cases hkl : k < l.length
                · obtain ⟨g3, e3, hg3, hc3⟩ := HCL.out k hkl
                  have hck := (hBr.cell (p := ⟨g3, k, none⟩) hg3).trans hc3
                  have hx := List.getElem?_eq_getElem hkl
                  have hmn := midK_next l g k _ hgl hx
                  have hmo : midK l g k = outK l g k := by unfold midK; rw [if_neg hkn]
                  rw [hmo] at hmn
                  obtain ⟨v', w1, hrun, hown', hgrow⟩ := own_num hout hszr (by omega) l[k] 87
                  have hB1 := below_grown hBr hout hgrow hszr
                  rw [hmn] at hown'
                  have H0 : Hid _ := hrun
                  have HO : Hid _ := hown'
                  have HB1 : Hid _ := hB1
                  have hq2 : (k : Int) < (l.length : Int) := by omega
                  subst e3
                  clear hrun hown' hB1 hmn hmo hx hout hc3 HCL HR
                  generalize l[k] = z at *
                  go_wp2
                  go_loopw [10, 12] (fun out j wr' => out = u10 ∧ j = .int .i64 (l.length : Int) ∧ wr' = wr) (fun _ j _ => 0)
                  case atStart => exact ⟨rfl, rfl, rfl⟩
                  case round =>
                    obtain ⟨rfl, rfl, rfl⟩ := hrel
                    go_wp2_with (at_builtin; refine wpList_append_run rfl _ _ _ _ rfl rfl rfl H0.out ?_; clear H0)
                    exact ⟨⟨k + 1, by omega, by simp, HO.out, HB1.out⟩, by simp [intOf]; omega⟩
                · obtain rfl : k = l.length := by omega
                  have hmo : outK l g l.length = outK l g (l.length + 1) := by
                    rw [← midK_last l g hgl]
                    unfold midK
                    rw [if_neg hkn]
                  rw [hmo] at hout
                  have HO : Hid _ := hout
                  have HBR : Hid _ := hBr
                  have hq2 : ¬ (l.length : Int) < (l.length : Int) := by omega
                  clear hout hmo
                  go_wp2
                  go_loopw [10, 12] (fun out j wr' => out = u10 ∧ j = .int .i64 (l.length : Int) ∧ wr' = wr) (fun _ j _ => 0)
                  case atStart => exact ⟨rfl, rfl, rfl⟩
                  case round =>
                    obtain ⟨rfl, rfl, rfl⟩ := hrel
                    go_wp2
                    exact ⟨⟨l.length + 1, by omega, by simp, HO.out, HBR.out⟩, by simp [intOf]⟩
            · obtain rfl : k = l.length + 1 := by omega
              rw [outK_all l g hgl] at hout
              have HO : Hid _ := hout
              have HBR : Hid _ := hBr
              have hqk : ¬ ((l.length + 1 : Nat) : Int) ≤ (l.length : Int) := by omega
              clear hout HCL
              go_wp2
              rw [← HQ.out]
              exact Ans6.yes HWE.out rfl (row_base HO.out (by omega)) (HBU.out.trans (HBR.out.mono (by omega)))
end Go.Proofs.YtlpbffcijhgelaaDoor

namespace Go.Proofs.YtlpbffcijhgelaaDoor
open Go Go.RowKit Go.ChangeShapes Go.WideShapes Go.ChangeAt
set_option linter.unusedVariables false
set_option linter.unusedSimpArgs false

theorem zero_fitF : FitB (List.replicate 16 0) := fun z hz => by rw [(List.mem_replicate.1 hz).2]; decide
theorem byK_eight {G : List Int} (h : G.length = 8) : byK G 8 = flat2 G := by
  unfold byK flat2
  rw [List.take_of_length_le (by omega)]
  simp
/-- The document's Parse6, of any text. -/
theorem RParse6_any (s : ByteArray) (hs : s.size ≤ 140737488355328) (w : World) : Calls Tryd.prog 19 #[.string s] w fun e w' => Par6Post (rparse6 (txt s)) w e w' := by
  have hrd := fun W => Read6_ref s W hs
  have hl := txt_length s
  have hfin := read6_fin (txt s) s.size 0 ⟨[], -1, []⟩ SixS.Fin.new
  have hle := read6_le (txt s) s.size 0 ⟨[], -1, []⟩
  cases hr : read6 (txt s) s.size 0 ⟨[], -1, []⟩ with
  | mk x n =>
    rw [hr] at hfin hle
    simp only at hfin hle
    unfold rparse6
    rw [hl, hr]
    simp only
    by_cases hn : n < s.size
    · rw [if_pos hn]
      exact Parse6_short s x n w hrd hr hn hs
    · rw [if_neg hn]
      have hn' : n = s.size := by omega
      have hwf := fun (W : World) (v : Value) (p : ByteArray) (base : Nat) (h1 : W.ownsRow base 3 1 v x.L.length (intsL x.L)) (h2 : txt p = x.part) => Whole6_any s v x p base W h1 h2 hfin
      cases hw : whole6 x with
      | none =>
        rw [hw] at hwf
        exact Parse6_half s x n w hrd hr hn' hwf hs
      | some G =>
        rw [hw] at hwf
        obtain ⟨h8, hz⟩ := whole_fin hfin hw
        have := Parse6_good s x G w hrd (by rw [hr, hn']) hwf h8 hz
        rw [byK_eight h8] at this
        exact this
theorem parse6_fit (l : List UInt8) : FitB (parse6 l).1 ∧ (parse6 l).1.length = 16 := by
  have h := read6_both l [] Grp.new ⟨[], -1, []⟩ (.inl S6.new) _ rfl
  have hb := parse6_both l
  have hfin := read6_fin (l.map toI) (l.map toI).length 0 ⟨[], -1, []⟩ SixS.Fin.new
  have e : (parse6 l).1 = (rparse6 (l.map toI)).1 := by rw [hb]
  rw [e]
  unfold rparse6
  simp only
  split
  · exact ⟨zero_fitF, rfl⟩
  · split
    · exact ⟨zero_fitF, rfl⟩
    · rename_i G hG
      obtain ⟨h8, hz⟩ := whole_fin hfin hG
      refine ⟨fun z hz' => ?_, by show (flat2 G).length = 16; rw [flat2_len]; omega⟩
      simp only [List.mem_flatten, List.mem_map] at hz'
      obtain ⟨_, ⟨y, hy, rfl⟩, hzy⟩ := hz'
      have := hz y hy
      simp at hzy
      rcases hzy with rfl | rfl <;> omega
/-- Both Parse6, of any text, say the same. -/
theorem parse6_all (s : ByteArray) (hs : s.size ≤ 140737488351232) : ∃ (L : List Int) (m e : Int), FitB L ∧ L.length = 16 ∧
    (∀ W, Calls Tryd.prog 18 #[.string s] W fun e' w' => e' = .returned (.tuple #[A6 L, .int .i64 m, .int .i64 e]) ∧ Below W.heap.size W w') ∧
    (∀ W, Calls Tryd.prog 19 #[.string s] W fun e' w' => e' = .returned (.tuple #[A6 L, .int .i64 m, .int .i64 e]) ∧ Below W.heap.size W w') := by
  obtain ⟨hf, hl⟩ := parse6_fit s.data.toList
  refine ⟨(parse6 s.data.toList).1, ((parse6 s.data.toList).2.1 : Int), (parse6 s.data.toList).2.2, hf, hl, fun W => ?_, fun W => ?_⟩
  · exact parse6_calls s (by omega) W
  · have h := RParse6_any s (by omega) W
    have e : rparse6 (txt s) = ((parse6 s.data.toList).1, ((parse6 s.data.toList).2.1 : Int), (parse6 s.data.toList).2.2) := parse6_both s.data.toList
    rw [e] at h
    exact h
end Go.Proofs.YtlpbffcijhgelaaDoor

namespace Go.Proofs.YtlpbffcijhgelaaDoor
open Go
set_option linter.unusedVariables false
set_option linter.unusedSimpArgs false

theorem oct_lenM {q : List Int} {m : Int} (h : octB q m = true) : q.length ≤ 3 := by
  unfold octB at h
  cases q with
  | nil => simp
  | cons a r =>
    simp at h
    simp
    omega
theorem oct_stepM (q : List Int) (x m : Int) (hm : 9 ≤ m ∧ m ≤ 999) (h : octB q m = true) : octB (q ++ [x]) m = true ↔ (48 ≤ x ∧ x ≤ 57) ∧ ¬ (q ≠ [] ∧ numF 0 q = 0) ∧ 10 * numF 0 q + (x - 48) ≤ m := by
  have hl := oct_lenM h
  match q, hl with
  | [], _ =>
    simp [octB, numF, digB]
    try omega
  | [a], _ =>
    simp [octB, numF, digB] at h ⊢
    omega
  | [a, b], _ =>
    simp [octB, numF, digB] at h ⊢
    omega
  | [a, b, c], _ =>
    simp [octB, numF, digB] at h ⊢
    omega
theorem num_both (m : Int) (hm : 9 ≤ m ∧ m ≤ 999) {q : List Int} (h : octB q m = true) (x : Int) : (Num.take ⟨numF 0 q, !q.isEmpty⟩ x m = some ⟨numF 0 (q ++ [x]), true⟩ ∧ octB (q ++ [x]) m = true) ∨ (Num.take ⟨numF 0 q, !q.isEmpty⟩ x m = none ∧ octB (q ++ [x]) m = false) := by
  have ho := oct_stepM q x m hm h
  unfold Num.take
  by_cases hg : octB (q ++ [x]) m = true
  · obtain ⟨g1, g2, g3⟩ := ho.1 hg
    refine .inl ⟨?_, hg⟩
    rw [if_neg, if_neg (by show ¬ (m < 10 * numF 0 q + (x - 48)); omega), num_snoc]
    · congr 2; show 10 * numF 0 q + (x - 48) = _; omega
    · rintro (k | k | ⟨k1, k2⟩)
      · omega
      · omega
      · refine g2 ⟨fun hq => ?_, k2⟩
        rw [hq] at k1; simp at k1
  · refine .inr ⟨?_, by simpa using hg⟩
    by_cases e1 : x < 48 ∨ 57 < x ∨ ((!q.isEmpty) = true ∧ numF 0 q = 0)
    · rw [if_pos e1]
    · rw [if_neg e1, if_pos]
      apply Classical.byContradiction
      intro e2
      refine hg (ho.2 ⟨by omega, fun ⟨k1, k2⟩ => e1 (.inr (.inr ⟨?_, k2⟩)), by have : ¬ (m < 10 * numF 0 q + (x - 48)) := e2; omega⟩)
      cases q with
      | nil => exact absurd rfl k1
      | cons a r => rfl

/-- The number behind a slash, by both. -/
theorem len_both {σ : Type} (R : Reader σ) (m : Int) (hm : 9 ≤ m ∧ m ≤ 999) (s : σ) : ∀ (l : List UInt8) (q : List Int) (pos : Nat), octB q m = true → ∀ L, L = q ++ l.map toI →
    (lenN L m l.length q.length = L.length ∧ L ≠ [] ∧ (preReader R m).read l (pos + q.length) ⟨s, true, ⟨numF 0 q, !q.isEmpty⟩⟩ = .good ⟨s, true, ⟨numF 0 L, true⟩⟩) ∨
    ((lenN L m l.length q.length < L.length ∨ L = []) ∧ (preReader R m).read l (pos + q.length) ⟨s, true, ⟨numF 0 q, !q.isEmpty⟩⟩ = .bad (pos + lenN L m l.length q.length))
  | [], q, pos, h, L, hL => by
    simp at hL
    subst hL
    unfold Reader.read
    have e : (preReader R m).whole ⟨s, true, ⟨numF 0 L, !L.isEmpty⟩⟩ = !L.isEmpty := rfl
    rw [e]
    cases L with
    | nil => exact .inr ⟨.inr rfl, rfl⟩
    | cons a r => exact .inl ⟨rfl, by simp, rfl⟩
  | c :: l, q, pos, h, L, hL => by
    unfold Reader.read
    have e : (preReader R m).take ⟨s, true, ⟨numF 0 q, !q.isEmpty⟩⟩ ((c.toNat : Nat) : Int) = (Num.take ⟨numF 0 q, !q.isEmpty⟩ (toI c) m).map (fun n => ⟨s, true, n⟩) := rfl
    rw [e]
    have hLt : L.take (q.length + 1) = q ++ [toI c] := by
      rw [hL, List.map_cons, List.take_append, List.take_of_length_le (by omega), Nat.add_sub_cancel_left]
      rfl
    have hln : lenN L m (c :: l).length q.length = if octB (L.take (q.length + 1)) m then lenN L m l.length (q.length + 1) else q.length := by rw [List.length_cons, lenN]
    rw [hln, hLt]
    rcases num_both m hm h (toI c) with ⟨h1, h2⟩ | ⟨h1, h2⟩
    · have ih := len_both R m hm s l (q ++ [toI c]) pos h2 L (by rw [hL]; simp)
      rw [h1, if_pos h2]
      rw [List.length_append, List.length_singleton, show (!(q ++ [toI c]).isEmpty) = true by cases q <;> rfl] at ih
      exact ih
    · rw [h1, if_neg (by rw [h2]; simp)]
      exact .inr ⟨.inl (by rw [hL]; simp), rfl⟩

def rprefix (parse : List Int → List Int × Int × Int) (m : Int) (ok : List Int → Int → Bool) (zero : List Int) (l : List Int) : List Int × Int × Int × Int :=
  let at_ := slashN l l.length 0
  let r := parse (l.take at_)
  if r.2.2 ≠ 0 then (zero, 0, r.2.1, 20)
  else if at_ = l.length then (zero, 0, (at_ : Int), 20)
  else
    let rest := l.drop (at_ + 1)
    let n := lenN rest m rest.length 0
    if n < rest.length ∨ n = 0 then (zero, 0, ((at_ + 1 + n : Nat) : Int), 20)
    else if ok r.1 (numF 0 rest) then (r.1, numF 0 rest, 0, 0) else (zero, 0, (at_ : Int), 21)

theorem slash_both : ∀ (a rest pre : List Int), (∀ c ∈ a, c ≠ 47) → (rest = [] ∨ ∃ r, rest = 47 :: r) → slashN (pre ++ a ++ rest) (a ++ rest).length pre.length = pre.length + a.length
  | [], rest, pre, _, hr => by
    rcases hr with rfl | ⟨r, rfl⟩
    · rfl
    · rw [List.nil_append, List.length_cons, slashN, if_pos]
      · rfl
      · simp
  | c :: a, rest, pre, ha, hr => by
    have ih := slash_both a rest (pre ++ [c]) (fun x hx => ha x (by simp [hx])) hr
    rw [List.cons_append, List.length_cons, slashN, if_neg]
    · rw [show (pre ++ [c]).length = pre.length + 1 by simp] at ih
      rw [show pre ++ c :: a ++ rest = pre ++ [c] ++ a ++ rest by simp, ih, List.length_cons]
      omega
    · have : (pre ++ c :: a ++ rest).getD pre.length 47 = c := by simp [List.getD_eq_getElem?_getD]
      rw [this]
      exact ha c (by simp)


def Reader.run {σ : Type} (R : Reader σ) : List UInt8 → Nat → σ → Nat ⊕ σ
  | [], pos, s => .inr s
  | c :: l, pos, s => match R.take s (toI c) with
    | none => .inl pos
    | some s' => R.run l (pos + 1) s'
theorem Reader.read_run {σ : Type} (R : Reader σ) : ∀ (a : List UInt8) (pos : Nat) (s : σ), R.read a pos s = match R.run a pos s with
    | .inl n => .bad n
    | .inr s' => if R.whole s' then .good s' else .bad (pos + a.length)
  | [], pos, s => rfl
  | c :: a, pos, s => by
    unfold Reader.read Reader.run
    have e : R.take s ((c.toNat : Nat) : Int) = R.take s (toI c) := rfl
    rw [e]
    cases R.take s (toI c) with
    | none => rfl
    | some s' =>
      simp only
      rw [Reader.read_run R a (pos + 1) s', List.length_cons, show pos + 1 + a.length = pos + (a.length + 1) by omega]
theorem ahead_both {σ : Type} (R : Reader σ) (m : Int) (rest : List UInt8) (N : Num) : ∀ (a : List UInt8) (s : σ) (pos : Nat), (∀ c ∈ a, toI c ≠ 47) → (preReader R m).read (a ++ rest) pos ⟨s, false, N⟩ =
    match R.run a pos s with
    | .inl n => .bad n
    | .inr s' => (preReader R m).read rest (pos + a.length) ⟨s', false, N⟩
  | [], s, pos, _ => rfl
  | c :: a, s, pos, ha => by
    rw [List.cons_append, List.length_cons]
    have e : (preReader R m).take ⟨s, false, N⟩ ((c.toNat : Nat) : Int) = (R.take s (toI c)).map (fun a => ⟨a, false, N⟩) := by
      show preTake R m ⟨s, false, N⟩ (toI c) = _
      unfold preTake
      rw [if_neg (by simp), if_neg (fun k => ha c (by simp) k.1)]
    rw [Reader.read, e, Reader.run]
    cases R.take s (toI c) with
    | none => rfl
    | some s' =>
      simp only [Option.map_some]
      rw [ahead_both R m rest N a s' (pos + 1) (fun x hx => ha x (by simp [hx])), show pos + 1 + a.length = pos + (a.length + 1) by omega]
theorem cut_slash : ∀ l : List UInt8, ∃ a rest, l = a ++ rest ∧ (∀ c ∈ a, toI c ≠ 47) ∧ (rest = [] ∨ ∃ r, rest = 47 :: r) ∧ (∀ r, rest = 47 :: r → Lib.indexByte l 47 = a.length)
  | [] => ⟨[], [], rfl, by simp, .inl rfl, by simp⟩
  | c :: l => by
    by_cases h : c = 47
    · subst h
      exact ⟨[], 47 :: l, rfl, by simp, .inr ⟨l, rfl⟩, fun r _ => by simp [Lib.indexByte]⟩
    · obtain ⟨a, rest, e1, e2, e3, e4⟩ := cut_slash l
      refine ⟨c :: a, rest, by rw [e1]; rfl, ?_, e3, fun r hr => ?_⟩
      · intro x hx
        rcases List.mem_cons.1 hx with rfl | hx
        · intro k
          apply h
          apply UInt8.toNat_inj.1
          have : ((x.toNat : Nat) : Int) = 47 := k
          show x.toNat = 47
          omega
        · exact e2 x hx
      · have := e4 r hr
        simp only [Lib.indexByte, this, List.length_cons]
        simp [h]
        try omega

/-- Both readers of prefixes are one. -/
theorem prefix_both {σ : Type} (R : Reader σ) (s0 : σ) (addrOf : σ → List Int) (zero zp : List Int) (m : Int) (hm : 9 ≤ m ∧ m ≤ 999) (ok : List Int → Int → Bool) (hno : ∀ s, R.take s 47 = none) (parse : List Int → List Int × Int × Int)
    (hp : ∀ l : List UInt8, parse (l.map toI) = match R.read l 0 s0 with
      | .bad n => (zp, (n : Int), 20)
      | .good s => (addrOf s, 0, 0)) (l : List UInt8) :
    rprefix parse m ok zero (l.map toI) = match (preReader R m).read l 0 ⟨s0, false, ⟨0, false⟩⟩ with
      | .bad n => (zero, 0, (n : Int), 20)
      | .good p => if ok (addrOf p.addr) p.num.value then (addrOf p.addr, p.num.value, 0, 0) else (zero, 0, Lib.indexByte l 47, 21) := by
  obtain ⟨a, rest, e1, e2, e3, e4⟩ := cut_slash l
  have hsl : slashN (l.map toI) (l.map toI).length 0 = a.length := by
    have := slash_both (a.map toI) (rest.map toI) [] (by intro c hc; obtain ⟨x, hx, rfl⟩ := List.mem_map.1 hc; exact e2 x hx) (by
      rcases e3 with rfl | ⟨r, rfl⟩
      · exact .inl rfl
      · exact .inr ⟨r.map toI, rfl⟩)
    simpa [e1] using this
  have hta : (l.map toI).take a.length = a.map toI := by rw [e1, List.map_append, List.take_append_of_le_length (by simp)]; rw [List.take_of_length_le (by simp)]
  have hlen : (l.map toI).length = a.length + rest.length := by rw [e1]; simp
  unfold rprefix
  rw [hsl]
  simp only
  rw [hta, hp, hlen]
  have hah := ahead_both R m rest ⟨0, false⟩ a s0 0 e2
  rw [← e1] at hah
  rw [hah, Reader.read_run]
  cases hr : R.run a 0 s0 with
  | inl n => simp
  | inr s' =>
    simp only [Nat.zero_add]
    by_cases hw : R.whole s' = true
    · rw [if_pos hw]
      simp only [ne_eq, not_true_eq_false, if_false]
      rcases e3 with rfl | ⟨r, rfl⟩
      · rw [if_pos (by simp)]
        rfl
      · rw [if_neg (by simp)]
        have hrd : (preReader R m).read (47 :: r) a.length ⟨s', false, ⟨0, false⟩⟩ = (preReader R m).read r (a.length + 1) ⟨s', true, ⟨0, false⟩⟩ := by
          rw [Reader.read]
          have e47 : (((47 : UInt8).toNat : Nat) : Int) = 47 := rfl
          rw [e47]
          have e : (preReader R m).take ⟨s', false, ⟨0, false⟩⟩ 47 = some ⟨s', true, ⟨0, false⟩⟩ := by
            show preTake R m ⟨s', false, ⟨0, false⟩⟩ 47 = _
            unfold preTake
            rw [if_neg (by simp), if_pos ⟨rfl, hw⟩]
          rw [e]
        rw [hrd]
        have hdr : (l.map toI).drop (a.length + 1) = r.map toI := by
          rw [e1, List.map_append, List.drop_append]
          simp
        rw [hdr]
        have hlb := len_both R m hm s' r [] (a.length + 1) rfl (r.map toI) rfl
        rw [List.length_nil, Nat.add_zero] at hlb
        rw [show (r.map toI).length = r.length by simp] at hlb ⊢
        rcases hlb with ⟨h1, h2, h3⟩ | ⟨h1, h2⟩
        · have h3' : (preReader R m).read r (a.length + 1) ⟨s', true, ⟨0, false⟩⟩ = .good ⟨s', true, ⟨numF 0 (r.map toI), true⟩⟩ := h3
          rw [h3', h1, if_neg]
          · rw [e4 r rfl]
          · rintro (k | k)
            · omega
            · exact h2 (List.length_eq_zero_iff.1 (by simpa using k))
        · have h2' : (preReader R m).read r (a.length + 1) ⟨s', true, ⟨0, false⟩⟩ = .bad (a.length + 1 + lenN (r.map toI) m r.length 0) := h2
          rw [h2', if_pos]
          rcases h1 with h1 | h1
          · exact .inl h1
          · right
            have : r = [] := by simpa using h1
            subst this
            rfl
    · rw [if_neg hw]
      simp only [ne_eq]
      rw [if_pos (by decide)]
      rcases e3 with rfl | ⟨r, rfl⟩
      · rfl
      · rw [Reader.read]
        have e47 : (((47 : UInt8).toNat : Nat) : Int) = 47 := rfl
        rw [e47]
        have e : (preReader R m).take ⟨s', false, ⟨0, false⟩⟩ 47 = none := by
          show preTake R m ⟨s', false, ⟨0, false⟩⟩ 47 = _
          unfold preTake
          rw [if_neg (by simp), if_neg (fun k => hw k.2)]
          show (R.take s' 47).map _ = none
          rw [hno]
          rfl
        rw [e]
end Go.Proofs.YtlpbffcijhgelaaDoor

namespace Go.Proofs.YtlpbffcijhgelaaDoor
set_option linter.unusedVariables false
set_option linter.unusedSimpArgs false
open Go Go.RowKit

def Px6 (r : List Int × Int × Int × Int) (w : World) (e : Ending) (w' : World) : Prop := e = .returned (.tuple #[P6 r.1 r.2.1, .int .i64 r.2.2.1, .int .i64 r.2.2.2]) ∧ Below w.heap.size w w'

set_option maxHeartbeats 1000000 in
set_option maxRecDepth 100000 in
theorem Prefix6_parse (s : ByteArray) (at_ : Nat) (A : List Int) (m er : Int) (hs : s.size ≤ 140737488355328) (h1 : slashN (txt s) s.size 0 = at_) (hat : at_ ≤ s.size) (h4 : ∀ W, Calls Tryd.prog 19 #[.string (s.extract 0 at_)] W fun e w' => Par6Post (A, m, er) W e w') (h9 : A.length = 16) (h10 : FitB A) (he : er ≠ 0) (w : World) :
    Calls Tryd.prog 25 #[.string s] w fun e w' => Px6 (zero16, 0, m, 20) w e w' := by
  generalize hQ : (fun e w' => Px6 (zero16, 0, m, 20) w e w') = Q
  have HQ : Hid _ := hQ
  clear hQ
  have hsl := fun W => slash_ref s W (by omega)
  rw [h1] at hsl
  have HSL : Hid _ := hsl
  have HPA : Hid _ := h4
  have q2 : (at_ : Int) ≤ (s.size : Int) := by omega
  have hb0 := blk_new w (.cells zero17V.toArray 40)
  have hB0 := (Below.refl w.heap.size w).alloc (Nat.le_refl _) (.cells zero17V.toArray 40)
  have hz0 : (w.alloc (.cells zero17V.toArray 40)).heap.size = w.heap.size + 1 := by simp
  have HZ0 : Hid _ := hz0
  clear hz0 hsl h1 h4
  have q0 : (er != 0) = true := by simpa using he
  go_enter Tryd.func25, Tryd.ntmps25
  go_wp2_with fail
  generalize hW : w.alloc (.cells zero17V.toArray 40) = W0 at *
  clear hW
  refine (HSL.out W0).mono ?_
  rintro e w1 ⟨rfl, rfl⟩
  go_wp2_with fail
  refine (HPA.out _).mono ?_
  rintro e w2 ⟨rfl, hB2⟩
  have hz0 := HZ0.out
  have hb2 := (hB2.block _ (by omega)).trans hb0
  have hBw2 := hB0.trans (hB2.mono (by omega))
  obtain ⟨w3, hst, bx3, hB3⟩ := box_new Tryd.sizeOf31 w2 zero16V rfl (b8 A) (by rw [b8_length, h9]) (b8_one _)
  have hlt2 : w.heap.size < w2.heap.size := Nat.lt_of_lt_of_le (by omega) hB2.size
  have hb3 := (hB3.block _ hlt2).trans hb2
  have hBw3 := hBw2.trans (hB3.mono hBw2.size)
  have HST : Hid _ := hst
  clear hst hz0 HZ0 hb0 hB0 hb2 hBw2 HPA HSL
  obtain ⟨wz, hstz, bz, honz⟩ := box_store Tryd.sizeOf40 hb3 rfl zero17V rfl (by simp [Value.oneCell'])
  have HSZ : Hid _ := hstz
  have HLV : Hid _ := agg_loadVar (t := 40) Tryd.isAgg40 Tryd.sizeOf40 rfl (CellsAt.of_blk bz)
  have HBE : Hid (Below w.heap.size w wz) := hBw3.trans (honz.below (Nat.le_refl _))
  clear hstz bz honz
  unfold Par6
  dsimp only
  go_wp2_with first
    | ((with_reducible show wpList _ _ _ _ _ _); refine armS (.tmp 6) (.tmp 18) 31 rfl rfl rfl rfl HST.out ?_)
    | ((with_reducible show wpList _ _ _ _ _ _); refine armS (.tmp 2) (.tmp 23) 40 rfl rfl rfl rfl HSZ.out ?_)
  refine bodyPost_ret (res3c Tryd.results25 rfl HLV.out) rfl ?_
  rw [← HQ.out]
  exact ⟨rfl, HBE.out⟩

set_option maxHeartbeats 1000000 in
set_option maxRecDepth 100000 in
theorem Prefix6_noslash (s : ByteArray) (at_ : Nat) (A : List Int) (m er : Int) (hs : s.size ≤ 140737488355328) (h1 : slashN (txt s) s.size 0 = at_) (hat : at_ ≤ s.size) (h4 : ∀ W, Calls Tryd.prog 19 #[.string (s.extract 0 at_)] W fun e w' => Par6Post (A, m, er) W e w') (h9 : A.length = 16) (h10 : FitB A) (he : er = 0) (hn : at_ = s.size) (w : World) :
    Calls Tryd.prog 25 #[.string s] w fun e w' => Px6 (zero16, 0, (at_ : Int), 20) w e w' := by
  subst he
  generalize hQ : (fun e w' => Px6 (zero16, 0, (at_ : Int), 20) w e w') = Q
  have HQ : Hid _ := hQ
  clear hQ
  have hsl := fun W => slash_ref s W (by omega)
  rw [h1] at hsl
  have HSL : Hid _ := hsl
  have HPA : Hid _ := h4
  have q2 : (at_ : Int) ≤ (s.size : Int) := by omega
  have hb0 := blk_new w (.cells zero17V.toArray 40)
  have hB0 := (Below.refl w.heap.size w).alloc (Nat.le_refl _) (.cells zero17V.toArray 40)
  have hz0 : (w.alloc (.cells zero17V.toArray 40)).heap.size = w.heap.size + 1 := by simp
  have HZ0 : Hid _ := hz0
  clear hz0 hsl h1 h4
  have q1 : ((at_ : Int) == (s.size : Int)) = true := by simp; omega
  clear hn
  go_enter Tryd.func25, Tryd.ntmps25
  go_wp2_with fail
  generalize hW : w.alloc (.cells zero17V.toArray 40) = W0 at *
  clear hW
  refine (HSL.out W0).mono ?_
  rintro e w1 ⟨rfl, rfl⟩
  go_wp2_with fail
  refine (HPA.out _).mono ?_
  rintro e w2 ⟨rfl, hB2⟩
  have hz0 := HZ0.out
  have hb2 := (hB2.block _ (by omega)).trans hb0
  have hBw2 := hB0.trans (hB2.mono (by omega))
  obtain ⟨w3, hst, bx3, hB3⟩ := box_new Tryd.sizeOf31 w2 zero16V rfl (b8 A) (by rw [b8_length, h9]) (b8_one _)
  have hlt2 : w.heap.size < w2.heap.size := Nat.lt_of_lt_of_le (by omega) hB2.size
  have hb3 := (hB3.block _ hlt2).trans hb2
  have hBw3 := hBw2.trans (hB3.mono hBw2.size)
  have HST : Hid _ := hst
  clear hst hz0 HZ0 hb0 hB0 hb2 hBw2 HPA HSL
  obtain ⟨wz, hstz, bz, honz⟩ := box_store Tryd.sizeOf40 hb3 rfl zero17V rfl (by simp [Value.oneCell'])
  have HSZ : Hid _ := hstz
  have HLV : Hid _ := agg_loadVar (t := 40) Tryd.isAgg40 Tryd.sizeOf40 rfl (CellsAt.of_blk bz)
  have HBE : Hid (Below w.heap.size w wz) := hBw3.trans (honz.below (Nat.le_refl _))
  clear hstz bz honz
  unfold Par6
  dsimp only
  go_wp2_with first
    | ((with_reducible show wpList _ _ _ _ _ _); refine armS (.tmp 6) (.tmp 18) 31 rfl rfl rfl rfl HST.out ?_)
    | ((with_reducible show wpList _ _ _ _ _ _); refine armS (.tmp 2) (.tmp 29) 40 rfl rfl rfl rfl HSZ.out ?_)
  refine bodyPost_ret (res3c Tryd.results25 rfl HLV.out) rfl ?_
  rw [← HQ.out]
  exact ⟨rfl, HBE.out⟩

set_option maxHeartbeats 1000000 in
set_option maxRecDepth 100000 in
theorem Prefix6_badlen (s : ByteArray) (at_ : Nat) (A : List Int) (m er : Int) (hs : s.size ≤ 140737488355328) (h1 : slashN (txt s) s.size 0 = at_) (hat : at_ ≤ s.size) (h4 : ∀ W, Calls Tryd.prog 19 #[.string (s.extract 0 at_)] W fun e w' => Par6Post (A, m, er) W e w') (h9 : A.length = 16) (h10 : FitB A) (he : er = 0) (hn : at_ < s.size) (N : Nat) (h5 : lenN (txt (s.extract (at_ + 1) s.size)) 128 (s.extract (at_ + 1) s.size).size 0 = N) (hN : N < (s.extract (at_ + 1) s.size).size ∨ N = 0) (hN3 : N ≤ 3) (w : World) :
    Calls Tryd.prog 25 #[.string s] w fun e w' => Px6 (zero16, 0, ((at_ + 1 + N : Nat) : Int), 20) w e w' := by
  subst he
  have hes : (s.extract (at_ + 1) s.size).size = s.size - (at_ + 1) := by rw [ByteArray.size_extract]; omega
  have hlen := fun W => length_ref (s.extract (at_ + 1) s.size) 128 W (by omega) (by decide)
  rw [h5] at hlen
  have HLEN : Hid _ := hlen
  generalize hQ : (fun e w' => Px6 (zero16, 0, ((at_ + 1 + N : Nat) : Int), 20) w e w') = Q
  have HQ : Hid _ := hQ
  clear hQ
  have hsl := fun W => slash_ref s W (by omega)
  rw [h1] at hsl
  have HSL : Hid _ := hsl
  have HPA : Hid _ := h4
  have q2 : (at_ : Int) ≤ (s.size : Int) := by omega
  have hb0 := blk_new w (.cells zero17V.toArray 40)
  have hB0 := (Below.refl w.heap.size w).alloc (Nat.le_refl _) (.cells zero17V.toArray 40)
  have hz0 : (w.alloc (.cells zero17V.toArray 40)).heap.size = w.heap.size + 1 := by simp
  have HZ0 : Hid _ := hz0
  clear hz0 hsl h1 h4
  generalize hr : s.extract (at_ + 1) s.size = r at *
  have HRR : Hid _ := hr
  have q1 : ((at_ : Int) == (s.size : Int)) = false := by simp; omega
  have q3 : (at_ : Int) + 1 ≤ (s.size : Int) := by omega
  clear hr hlen h5
  have hqq : ((N : Int) < (r.size : Int)) ∨ ((r.size : Int) ≤ (N : Int) ∧ ((N : Int) == 0) = true) := by
    rcases hN with h | h
    · exact .inl (by omega)
    · by_cases hlt : (N : Int) < (r.size : Int)
      · exact .inl hlt
      · exact .inr ⟨by omega, by simp; omega⟩
  have hrs : r.size ≤ 140737488355328 := by omega
  go_enter Tryd.func25, Tryd.ntmps25
  go_wp2_with fail
  generalize hW : w.alloc (.cells zero17V.toArray 40) = W0 at *
  clear hW
  refine (HSL.out W0).mono ?_
  rintro e w1 ⟨rfl, rfl⟩
  go_wp2_with fail
  refine (HPA.out _).mono ?_
  rintro e w2 ⟨rfl, hB2⟩
  have hz0 := HZ0.out
  have hb2 := (hB2.block _ (by omega)).trans hb0
  have hBw2 := hB0.trans (hB2.mono (by omega))
  obtain ⟨w3, hst, bx3, hB3⟩ := box_new Tryd.sizeOf31 w2 zero16V rfl (b8 A) (by rw [b8_length, h9]) (b8_one _)
  have hlt2 : w.heap.size < w2.heap.size := Nat.lt_of_lt_of_le (by omega) hB2.size
  have hb3 := (hB3.block _ hlt2).trans hb2
  have hBw3 := hBw2.trans (hB3.mono hBw2.size)
  have HST : Hid _ := hst
  clear hst hz0 HZ0 hb0 hB0 hb2 hBw2 HPA HSL
  obtain ⟨wz, hstz, bz, honz⟩ := box_store Tryd.sizeOf40 hb3 rfl zero17V rfl (by simp [Value.oneCell'])
  have HSZ : Hid _ := hstz
  have HLV : Hid _ := agg_loadVar (t := 40) Tryd.isAgg40 Tryd.sizeOf40 rfl (CellsAt.of_blk bz)
  have HBE : Hid (Below w.heap.size w wz) := hBw3.trans (honz.below (Nat.le_refl _))
  clear hstz bz honz
  unfold Par6
  dsimp only
  go_wp2_with (((with_reducible show wpList _ _ _ _ _ _); refine armS (.tmp 6) (.tmp 18) 31 rfl rfl rfl rfl HST.out ?_))
  rw [HRR.out]
  refine (HLEN.out _).mono ?_
  rintro e w4 ⟨rfl, rfl⟩
  rcases hqq with hqq | ⟨hqq, hq0⟩
  · have qd : decide ((N : Int) < (r.size : Int)) = true := decide_eq_true hqq
    go_wp2_with (((with_reducible show wpList _ _ _ _ _ _); refine armS (.tmp 2) (.tmp 45) 40 rfl rfl rfl rfl HSZ.out ?_))
    refine bodyPost_ret (res3c Tryd.results25 rfl HLV.out) rfl ?_
    rw [← HQ.out]
    exact ⟨by simp only [Int.natCast_add, Int.natCast_one]; try rfl, HBE.out⟩
  · have qd : decide ((N : Int) < (r.size : Int)) = false := decide_eq_false (by omega)
    go_wp2_with (((with_reducible show wpList _ _ _ _ _ _); refine armS (.tmp 2) (.tmp 45) 40 rfl rfl rfl rfl HSZ.out ?_))
    refine bodyPost_ret (res3c Tryd.results25 rfl HLV.out) rfl ?_
    rw [← HQ.out]
    exact ⟨by simp only [Int.natCast_add, Int.natCast_one]; try rfl, HBE.out⟩

set_option maxHeartbeats 1000000 in
set_option maxRecDepth 100000 in
theorem Prefix6_fit (s : ByteArray) (at_ : Nat) (A : List Int) (m er : Int) (hs : s.size ≤ 140737488355328) (h1 : slashN (txt s) s.size 0 = at_) (hat : at_ ≤ s.size) (h4 : ∀ W, Calls Tryd.prog 19 #[.string (s.extract 0 at_)] W fun e w' => Par6Post (A, m, er) W e w') (h9 : A.length = 16) (h10 : FitB A) (he : er = 0) (hn : at_ + 1 < s.size) (n : Int) (h5 : lenN (txt (s.extract (at_ + 1) s.size)) 128 (s.extract (at_ + 1) s.size).size 0 = (s.extract (at_ + 1) s.size).size) (h5b : (s.extract (at_ + 1) s.size).size ≤ 3) (h6 : (txt (s.extract (at_ + 1) s.size)).all digB = true) (h7 : numF 0 (txt (s.extract (at_ + 1) s.size)) = n) (h8 : okP6 A n = true) (h11 : 0 ≤ n ∧ n ≤ 128) (w : World) :
    Calls Tryd.prog 25 #[.string s] w fun e w' => Px6 (A, n, 0, 0) w e w' := by
  subst he
  have hes : (s.extract (at_ + 1) s.size).size = s.size - (at_ + 1) := by rw [ByteArray.size_extract]; omega
  have hlen := fun W => length_ref (s.extract (at_ + 1) s.size) 128 W (by omega) (by decide)
  rw [h5] at hlen
  have HLEN : Hid _ := hlen
  have hnum := fun W => number_ref (s.extract (at_ + 1) s.size) W h6 (by omega)
  rw [h7] at hnum
  have hck := fun W => RCheck6_calls A n W h10 h9 (by omega)
  rw [h8] at hck
  simp only [if_true, Bool.false_eq_true, if_false] at hck
  have HNUM : Hid (∀ W, Calls Tryd.prog 53 #[.string (s.extract (at_ + 1) s.size)] W fun e w' => ∃ u, e = .returned u ∧ (u = .int .i64 n ∧ w' = W)) := fun W => (hnum W).mono fun e w' h => ⟨_, h.1, rfl, h.2⟩
  have HCK : Hid _ := hck
  generalize hQ : (fun e w' => Px6 (A, n, 0, 0) w e w') = Q
  have HQ : Hid _ := hQ
  clear hQ
  have hsl := fun W => slash_ref s W (by omega)
  rw [h1] at hsl
  have HSL : Hid _ := hsl
  have HPA : Hid _ := h4
  have q2 : (at_ : Int) ≤ (s.size : Int) := by omega
  have hb0 := blk_new w (.cells zero17V.toArray 40)
  have hB0 := (Below.refl w.heap.size w).alloc (Nat.le_refl _) (.cells zero17V.toArray 40)
  have hz0 : (w.alloc (.cells zero17V.toArray 40)).heap.size = w.heap.size + 1 := by simp
  have HZ0 : Hid _ := hz0
  clear hz0 hsl h1 h4
  generalize hr : s.extract (at_ + 1) s.size = r at *
  have HRR : Hid _ := hr
  have q1 : ((at_ : Int) == (s.size : Int)) = false := by simp; omega
  have q3 : (at_ : Int) + 1 ≤ (s.size : Int) := by omega
  have q4 : ((r.size : Int) == 0) = false := by rw [beq_eq_false_iff_ne]; intro h; omega
  have hrs : r.size ≤ 100 := by omega
  clear hlen hnum hck h5 h6 h7 h8 hr hes
  go_enter Tryd.func25, Tryd.ntmps25
  go_wp2_with fail
  generalize hW : w.alloc (.cells zero17V.toArray 40) = W0 at *
  clear hW
  refine (HSL.out W0).mono ?_
  rintro e w1 ⟨rfl, rfl⟩
  go_wp2_with fail
  refine (HPA.out _).mono ?_
  rintro e w2 ⟨rfl, hB2⟩
  have hz0 := HZ0.out
  have hb2 := (hB2.block _ (by omega)).trans hb0
  have hBw2 := hB0.trans (hB2.mono (by omega))
  obtain ⟨w3, hst, bx3, hB3⟩ := box_new Tryd.sizeOf31 w2 zero16V rfl (b8 A) (by rw [b8_length, h9]) (b8_one _)
  have hlt2 : w.heap.size < w2.heap.size := Nat.lt_of_lt_of_le (by omega) hB2.size
  have hb3 := (hB3.block _ hlt2).trans hb2
  have hBw3 := hBw2.trans (hB3.mono hBw2.size)
  have HST : Hid _ := hst
  clear hst hz0 HZ0 hb0 hB0 hb2 hBw2 HPA HSL
  unfold Par6
  dsimp only
  go_wp2_with (((with_reducible show wpList _ _ _ _ _ _); refine armS (.tmp 6) (.tmp 18) 31 rfl rfl rfl rfl HST.out ?_))
  rw [HRR.out]
  refine (HLEN.out _).mono ?_
  rintro e w4 ⟨rfl, rfl⟩
  go_wp2_with fail
  obtain ⟨w5, hst5, bx5, hB5⟩ := box_new Tryd.sizeOf40 w4.drew zero17V rfl (cp6 A n) (cp6_length A n h9) (cp6_one A n)
  have HS5 : Hid _ := hst5
  have hb5 := (hB5.block w.heap.size (Nat.lt_of_lt_of_le hlt2 hB3.size)).trans hb3
  have hBw5 : Below w.heap.size w w5 := hBw3.drew.trans (hB5.mono hBw3.size)
  have HLP : Hid _ := loadP6 h9 (CellsAt.pfx h9 bx5).1
  have hb6 : w5.heap[w2.heap.size]? = some (.cells (b8 A).toArray 31) := (hB5.block w2.heap.size (Array.getElem?_eq_some_iff.1 bx3).1).trans bx3
  clear hst5
  refine wp_region_held (S := fun W => W.heap[w2.heap.size]? = some (.cells (b8 A).toArray 31)) (by kernel_rfl) ?_
  show wpAnyH _ _ _ _ _ 6 (Array.replicate 6 false) _ _
  refine take_one (i := 0) (d := some 50) (v := (A6 A)) rfl rfl rfl (by kernel_rfl) (by kernel_rfl) (by kernel_rfl) (fun _ _ d _ _ h => by cases d <;> exact h) (fun W hS => ex_loadA (.tmp 6) 31 rfl rfl (load6 h9 (cells_b8 hS))) bx3 ?_
  simp only [Act.put, List.setIfInBounds_toArray, List.set_cons_zero, List.set_cons_succ]
  refine take_one (i := 1) (d := some 51) (v := (.string r)) rfl rfl rfl (by kernel_rfl) (by kernel_rfl) (by kernel_rfl) (fun _ _ d _ _ h => by cases d <;> exact h) (fun W hS => ex_moveA (.tmp 9) rfl rfl) bx3 ?_
  simp only [Act.put, List.setIfInBounds_toArray, List.set_cons_zero, List.set_cons_succ]
  have bx3a : (w4.drew.alloc (.cells zero17V.toArray 40)).heap[w2.heap.size]? = some (.cells (b8 A).toArray 31) := blk_alloc (w := w4.drew) bx3 _
  refine all_two (i1 := 2) (i2 := 4) (by kernel_rfl) rfl rfl rfl rfl ?_ ?_
  · refine wp_call (d := some 52) 53 _ rfl (by kernel_rfl) (HNUM.out _) ?_
    rintro _ _ ⟨rfl, rfl⟩
    refine ⟨bx3, ?_⟩
    simp only [Act.put, List.setIfInBounds_toArray, List.set_cons_zero, List.set_cons_succ]
    refine take_one (i := 3) (d := some 53) (v := (P6 A n)) rfl rfl rfl (by kernel_rfl) (by kernel_rfl) (by kernel_rfl) (fun _ _ d _ _ h => by cases d <;> exact h) (fun W hS => ex_buildA 40 [(0, .tmp 50), (1, .tmp 52)] rfl rfl (build6 A n h9 _)) bx3 ?_
    simp only [Act.put, List.setIfInBounds_toArray, List.set_cons_zero, List.set_cons_succ]
    refine all_one (i := 4) (by kernel_rfl) rfl rfl ?_
    refine wp_allocA (d := some 10) 40 rfl rfl (v := .pointer (some ⟨w4.drew.heap.size, 0, none⟩)) (w2 := w4.drew.alloc (.cells zero17V.toArray 40)) (by simp [execOp, go_sem]) ?_
    refine ⟨bx3a, ?_⟩
    simp only [Act.put, List.setIfInBounds_toArray, List.set_cons_zero, List.set_cons_succ]
    refine all_one (i := 5) (by kernel_rfl) rfl rfl ?_
    refine wp_storeA (.tmp 10) (.tmp 53) 40 rfl rfl rfl rfl HS5.out ?_
    refine ⟨hb6, ?_⟩
    refine wpAnyH_done (by kernel_rfl) ?_ _
    go_wp2_with ((with_reducible show wpList _ _ _ _ _ _); refine armL (.tmp 10) 40 rfl rfl rfl HLP.out ?_)
    refine (HCK.out w5).mono ?_
    rintro e w6 ⟨rfl, hB6⟩
    have hlt5 : w.heap.size < w5.heap.size := (Array.getElem?_eq_some_iff.1 hb5).1
    have hb6R := (hB6.block _ hlt5).trans hb5
    have hBw6 := hBw5.trans (hB6.mono hBw5.size)
    have bx6 := (hB6.block _ (Array.getElem?_eq_some_iff.1 bx5).1).trans bx5
    have HL2 : Hid _ := loadP6 h9 (CellsAt.pfx h9 bx6).1
    obtain ⟨wE, hst, bE, honE⟩ := box_store Tryd.sizeOf40 hb6R rfl (cp6 A n) (cp6_length A n h9) (cp6_one A n)
    have HLV : Hid _ := loadVarP6 h9 (CellsAt.pfx h9 bE).1
    have HBE : Hid (Below w.heap.size w wE) := hBw6.trans (honE.below (Nat.le_refl _))
    have HSQ : Hid _ := hst
    clear hst bE honE hb6R hBw6 bx6 hB6 HCK
    go_wp2_with first
      | ((with_reducible show wpList _ _ _ _ _ _); refine armL (.tmp 10) 40 rfl rfl rfl HL2.out ?_)
      | ((with_reducible show wpList _ _ _ _ _ _); refine armS (.tmp 2) (.tmp 59) 40 rfl rfl rfl rfl HSQ.out ?_)
    refine bodyPost_ret (res3c Tryd.results25 rfl HLV.out) rfl ?_
    rw [← HQ.out]
    exact ⟨rfl, HBE.out⟩
  · refine wp_allocA (d := some 10) 40 rfl rfl (v := .pointer (some ⟨w4.drew.heap.size, 0, none⟩)) (w2 := w4.drew.alloc (.cells zero17V.toArray 40)) (by simp [execOp, go_sem]) ?_
    refine ⟨bx3a, ?_⟩
    simp only [Act.put, List.setIfInBounds_toArray, List.set_cons_zero, List.set_cons_succ]
    refine all_one (i := 2) (by kernel_rfl) rfl rfl ?_
    refine wp_call (d := some 52) 53 _ rfl (by kernel_rfl) (HNUM.out _) ?_
    rintro _ _ ⟨rfl, rfl⟩
    refine ⟨bx3a, ?_⟩
    simp only [Act.put, List.setIfInBounds_toArray, List.set_cons_zero, List.set_cons_succ]
    refine take_one (i := 3) (d := some 53) (v := (P6 A n)) rfl rfl rfl (by kernel_rfl) (by kernel_rfl) (by kernel_rfl) (fun _ _ d _ _ h => by cases d <;> exact h) (fun W hS => ex_buildA 40 [(0, .tmp 50), (1, .tmp 52)] rfl rfl (build6 A n h9 _)) bx3a ?_
    simp only [Act.put, List.setIfInBounds_toArray, List.set_cons_zero, List.set_cons_succ]
    refine all_one (i := 5) (by kernel_rfl) rfl rfl ?_
    refine wp_storeA (.tmp 10) (.tmp 53) 40 rfl rfl rfl rfl HS5.out ?_
    refine ⟨hb6, ?_⟩
    refine wpAnyH_done (by kernel_rfl) ?_ _
    go_wp2_with ((with_reducible show wpList _ _ _ _ _ _); refine armL (.tmp 10) 40 rfl rfl rfl HLP.out ?_)
    refine (HCK.out w5).mono ?_
    rintro e w6 ⟨rfl, hB6⟩
    have hlt5 : w.heap.size < w5.heap.size := (Array.getElem?_eq_some_iff.1 hb5).1
    have hb6R := (hB6.block _ hlt5).trans hb5
    have hBw6 := hBw5.trans (hB6.mono hBw5.size)
    have bx6 := (hB6.block _ (Array.getElem?_eq_some_iff.1 bx5).1).trans bx5
    have HL2 : Hid _ := loadP6 h9 (CellsAt.pfx h9 bx6).1
    obtain ⟨wE, hst, bE, honE⟩ := box_store Tryd.sizeOf40 hb6R rfl (cp6 A n) (cp6_length A n h9) (cp6_one A n)
    have HLV : Hid _ := loadVarP6 h9 (CellsAt.pfx h9 bE).1
    have HBE : Hid (Below w.heap.size w wE) := hBw6.trans (honE.below (Nat.le_refl _))
    have HSQ : Hid _ := hst
    clear hst bE honE hb6R hBw6 bx6 hB6 HCK
    go_wp2_with first
      | ((with_reducible show wpList _ _ _ _ _ _); refine armL (.tmp 10) 40 rfl rfl rfl HL2.out ?_)
      | ((with_reducible show wpList _ _ _ _ _ _); refine armS (.tmp 2) (.tmp 59) 40 rfl rfl rfl rfl HSQ.out ?_)
    refine bodyPost_ret (res3c Tryd.results25 rfl HLV.out) rfl ?_
    rw [← HQ.out]
    exact ⟨rfl, HBE.out⟩


set_option maxHeartbeats 1000000 in
set_option maxRecDepth 100000 in
theorem Prefix6_host (s : ByteArray) (at_ : Nat) (A : List Int) (m er : Int) (hs : s.size ≤ 140737488355328) (h1 : slashN (txt s) s.size 0 = at_) (hat : at_ ≤ s.size) (h4 : ∀ W, Calls Tryd.prog 19 #[.string (s.extract 0 at_)] W fun e w' => Par6Post (A, m, er) W e w') (h9 : A.length = 16) (h10 : FitB A) (he : er = 0) (hn : at_ + 1 < s.size) (n : Int) (h5 : lenN (txt (s.extract (at_ + 1) s.size)) 128 (s.extract (at_ + 1) s.size).size 0 = (s.extract (at_ + 1) s.size).size) (h5b : (s.extract (at_ + 1) s.size).size ≤ 3) (h6 : (txt (s.extract (at_ + 1) s.size)).all digB = true) (h7 : numF 0 (txt (s.extract (at_ + 1) s.size)) = n) (h8 : okP6 A n = false) (h11 : 0 ≤ n ∧ n ≤ 128) (w : World) :
    Calls Tryd.prog 25 #[.string s] w fun e w' => Px6 (zero16, 0, (at_ : Int), 21) w e w' := by
  subst he
  have hes : (s.extract (at_ + 1) s.size).size = s.size - (at_ + 1) := by rw [ByteArray.size_extract]; omega
  have hlen := fun W => length_ref (s.extract (at_ + 1) s.size) 128 W (by omega) (by decide)
  rw [h5] at hlen
  have HLEN : Hid _ := hlen
  have hnum := fun W => number_ref (s.extract (at_ + 1) s.size) W h6 (by omega)
  rw [h7] at hnum
  have hck := fun W => RCheck6_calls A n W h10 h9 (by omega)
  rw [h8] at hck
  simp only [if_true, Bool.false_eq_true, if_false] at hck
  have HNUM : Hid (∀ W, Calls Tryd.prog 53 #[.string (s.extract (at_ + 1) s.size)] W fun e w' => ∃ u, e = .returned u ∧ (u = .int .i64 n ∧ w' = W)) := fun W => (hnum W).mono fun e w' h => ⟨_, h.1, rfl, h.2⟩
  have HCK : Hid _ := hck
  generalize hQ : (fun e w' => Px6 (zero16, 0, (at_ : Int), 21) w e w') = Q
  have HQ : Hid _ := hQ
  clear hQ
  have hsl := fun W => slash_ref s W (by omega)
  rw [h1] at hsl
  have HSL : Hid _ := hsl
  have HPA : Hid _ := h4
  have q2 : (at_ : Int) ≤ (s.size : Int) := by omega
  have hb0 := blk_new w (.cells zero17V.toArray 40)
  have hB0 := (Below.refl w.heap.size w).alloc (Nat.le_refl _) (.cells zero17V.toArray 40)
  have hz0 : (w.alloc (.cells zero17V.toArray 40)).heap.size = w.heap.size + 1 := by simp
  have HZ0 : Hid _ := hz0
  clear hz0 hsl h1 h4
  generalize hr : s.extract (at_ + 1) s.size = r at *
  have HRR : Hid _ := hr
  have q1 : ((at_ : Int) == (s.size : Int)) = false := by simp; omega
  have q3 : (at_ : Int) + 1 ≤ (s.size : Int) := by omega
  have q4 : ((r.size : Int) == 0) = false := by rw [beq_eq_false_iff_ne]; intro h; omega
  have hrs : r.size ≤ 100 := by omega
  clear hlen hnum hck h5 h6 h7 h8 hr hes
  go_enter Tryd.func25, Tryd.ntmps25
  go_wp2_with fail
  generalize hW : w.alloc (.cells zero17V.toArray 40) = W0 at *
  clear hW
  refine (HSL.out W0).mono ?_
  rintro e w1 ⟨rfl, rfl⟩
  go_wp2_with fail
  refine (HPA.out _).mono ?_
  rintro e w2 ⟨rfl, hB2⟩
  have hz0 := HZ0.out
  have hb2 := (hB2.block _ (by omega)).trans hb0
  have hBw2 := hB0.trans (hB2.mono (by omega))
  obtain ⟨w3, hst, bx3, hB3⟩ := box_new Tryd.sizeOf31 w2 zero16V rfl (b8 A) (by rw [b8_length, h9]) (b8_one _)
  have hlt2 : w.heap.size < w2.heap.size := Nat.lt_of_lt_of_le (by omega) hB2.size
  have hb3 := (hB3.block _ hlt2).trans hb2
  have hBw3 := hBw2.trans (hB3.mono hBw2.size)
  have HST : Hid _ := hst
  clear hst hz0 HZ0 hb0 hB0 hb2 hBw2 HPA HSL
  unfold Par6
  dsimp only
  go_wp2_with (((with_reducible show wpList _ _ _ _ _ _); refine armS (.tmp 6) (.tmp 18) 31 rfl rfl rfl rfl HST.out ?_))
  rw [HRR.out]
  refine (HLEN.out _).mono ?_
  rintro e w4 ⟨rfl, rfl⟩
  go_wp2_with fail
  obtain ⟨w5, hst5, bx5, hB5⟩ := box_new Tryd.sizeOf40 w4.drew zero17V rfl (cp6 A n) (cp6_length A n h9) (cp6_one A n)
  have HS5 : Hid _ := hst5
  have hb5 := (hB5.block w.heap.size (Nat.lt_of_lt_of_le hlt2 hB3.size)).trans hb3
  have hBw5 : Below w.heap.size w w5 := hBw3.drew.trans (hB5.mono hBw3.size)
  have HLP : Hid _ := loadP6 h9 (CellsAt.pfx h9 bx5).1
  have hb6 : w5.heap[w2.heap.size]? = some (.cells (b8 A).toArray 31) := (hB5.block w2.heap.size (Array.getElem?_eq_some_iff.1 bx3).1).trans bx3
  clear hst5
  refine wp_region_held (S := fun W => W.heap[w2.heap.size]? = some (.cells (b8 A).toArray 31)) (by kernel_rfl) ?_
  show wpAnyH _ _ _ _ _ 6 (Array.replicate 6 false) _ _
  refine take_one (i := 0) (d := some 50) (v := (A6 A)) rfl rfl rfl (by kernel_rfl) (by kernel_rfl) (by kernel_rfl) (fun _ _ d _ _ h => by cases d <;> exact h) (fun W hS => ex_loadA (.tmp 6) 31 rfl rfl (load6 h9 (cells_b8 hS))) bx3 ?_
  simp only [Act.put, List.setIfInBounds_toArray, List.set_cons_zero, List.set_cons_succ]
  refine take_one (i := 1) (d := some 51) (v := (.string r)) rfl rfl rfl (by kernel_rfl) (by kernel_rfl) (by kernel_rfl) (fun _ _ d _ _ h => by cases d <;> exact h) (fun W hS => ex_moveA (.tmp 9) rfl rfl) bx3 ?_
  simp only [Act.put, List.setIfInBounds_toArray, List.set_cons_zero, List.set_cons_succ]
  have bx3a : (w4.drew.alloc (.cells zero17V.toArray 40)).heap[w2.heap.size]? = some (.cells (b8 A).toArray 31) := blk_alloc (w := w4.drew) bx3 _
  refine all_two (i1 := 2) (i2 := 4) (by kernel_rfl) rfl rfl rfl rfl ?_ ?_
  · refine wp_call (d := some 52) 53 _ rfl (by kernel_rfl) (HNUM.out _) ?_
    rintro _ _ ⟨rfl, rfl⟩
    refine ⟨bx3, ?_⟩
    simp only [Act.put, List.setIfInBounds_toArray, List.set_cons_zero, List.set_cons_succ]
    refine take_one (i := 3) (d := some 53) (v := (P6 A n)) rfl rfl rfl (by kernel_rfl) (by kernel_rfl) (by kernel_rfl) (fun _ _ d _ _ h => by cases d <;> exact h) (fun W hS => ex_buildA 40 [(0, .tmp 50), (1, .tmp 52)] rfl rfl (build6 A n h9 _)) bx3 ?_
    simp only [Act.put, List.setIfInBounds_toArray, List.set_cons_zero, List.set_cons_succ]
    refine all_one (i := 4) (by kernel_rfl) rfl rfl ?_
    refine wp_allocA (d := some 10) 40 rfl rfl (v := .pointer (some ⟨w4.drew.heap.size, 0, none⟩)) (w2 := w4.drew.alloc (.cells zero17V.toArray 40)) (by simp [execOp, go_sem]) ?_
    refine ⟨bx3a, ?_⟩
    simp only [Act.put, List.setIfInBounds_toArray, List.set_cons_zero, List.set_cons_succ]
    refine all_one (i := 5) (by kernel_rfl) rfl rfl ?_
    refine wp_storeA (.tmp 10) (.tmp 53) 40 rfl rfl rfl rfl HS5.out ?_
    refine ⟨hb6, ?_⟩
    refine wpAnyH_done (by kernel_rfl) ?_ _
    go_wp2_with ((with_reducible show wpList _ _ _ _ _ _); refine armL (.tmp 10) 40 rfl rfl rfl HLP.out ?_)
    refine (HCK.out w5).mono ?_
    rintro e w6 ⟨rfl, hB6⟩
    have hlt5 : w.heap.size < w5.heap.size := (Array.getElem?_eq_some_iff.1 hb5).1
    have hb6R := (hB6.block _ hlt5).trans hb5
    have hBw6 := hBw5.trans (hB6.mono hBw5.size)
    obtain ⟨wz, hstz, bz, honz⟩ := box_store Tryd.sizeOf40 hb6R rfl zero17V rfl (by simp [Value.oneCell'])
    have HSZ : Hid _ := hstz
    have HLV : Hid _ := agg_loadVar (t := 40) Tryd.isAgg40 Tryd.sizeOf40 rfl (CellsAt.of_blk bz)
    have HBE : Hid (Below w.heap.size w wz) := hBw6.trans (honz.below (Nat.le_refl _))
    clear hstz bz honz
    clear hb6R hBw6 hB6 HCK
    go_wp2_with (((with_reducible show wpList _ _ _ _ _ _); refine armS (.tmp 2) (.tmp 57) 40 rfl rfl rfl rfl HSZ.out ?_))
    refine bodyPost_ret (res3c Tryd.results25 rfl HLV.out) rfl ?_
    rw [← HQ.out]
    exact ⟨rfl, HBE.out⟩
  · refine wp_allocA (d := some 10) 40 rfl rfl (v := .pointer (some ⟨w4.drew.heap.size, 0, none⟩)) (w2 := w4.drew.alloc (.cells zero17V.toArray 40)) (by simp [execOp, go_sem]) ?_
    refine ⟨bx3a, ?_⟩
    simp only [Act.put, List.setIfInBounds_toArray, List.set_cons_zero, List.set_cons_succ]
    refine all_one (i := 2) (by kernel_rfl) rfl rfl ?_
    refine wp_call (d := some 52) 53 _ rfl (by kernel_rfl) (HNUM.out _) ?_
    rintro _ _ ⟨rfl, rfl⟩
    refine ⟨bx3a, ?_⟩
    simp only [Act.put, List.setIfInBounds_toArray, List.set_cons_zero, List.set_cons_succ]
    refine take_one (i := 3) (d := some 53) (v := (P6 A n)) rfl rfl rfl (by kernel_rfl) (by kernel_rfl) (by kernel_rfl) (fun _ _ d _ _ h => by cases d <;> exact h) (fun W hS => ex_buildA 40 [(0, .tmp 50), (1, .tmp 52)] rfl rfl (build6 A n h9 _)) bx3a ?_
    simp only [Act.put, List.setIfInBounds_toArray, List.set_cons_zero, List.set_cons_succ]
    refine all_one (i := 5) (by kernel_rfl) rfl rfl ?_
    refine wp_storeA (.tmp 10) (.tmp 53) 40 rfl rfl rfl rfl HS5.out ?_
    refine ⟨hb6, ?_⟩
    refine wpAnyH_done (by kernel_rfl) ?_ _
    go_wp2_with ((with_reducible show wpList _ _ _ _ _ _); refine armL (.tmp 10) 40 rfl rfl rfl HLP.out ?_)
    refine (HCK.out w5).mono ?_
    rintro e w6 ⟨rfl, hB6⟩
    have hlt5 : w.heap.size < w5.heap.size := (Array.getElem?_eq_some_iff.1 hb5).1
    have hb6R := (hB6.block _ hlt5).trans hb5
    have hBw6 := hBw5.trans (hB6.mono hBw5.size)
    obtain ⟨wz, hstz, bz, honz⟩ := box_store Tryd.sizeOf40 hb6R rfl zero17V rfl (by simp [Value.oneCell'])
    have HSZ : Hid _ := hstz
    have HLV : Hid _ := agg_loadVar (t := 40) Tryd.isAgg40 Tryd.sizeOf40 rfl (CellsAt.of_blk bz)
    have HBE : Hid (Below w.heap.size w wz) := hBw6.trans (honz.below (Nat.le_refl _))
    clear hstz bz honz
    clear hb6R hBw6 hB6 HCK
    go_wp2_with (((with_reducible show wpList _ _ _ _ _ _); refine armS (.tmp 2) (.tmp 57) 40 rfl rfl rfl rfl HSZ.out ?_))
    refine bodyPost_ret (res3c Tryd.results25 rfl HLV.out) rfl ?_
    rw [← HQ.out]
    exact ⟨rfl, HBE.out⟩


end Go.Proofs.YtlpbffcijhgelaaDoor

namespace Go.Proofs.YtlpbffcijhgelaaDoor
set_option linter.unusedVariables false
set_option linter.unusedSimpArgs false
open Go Go.RowKit

def Px4 (r : List Int × Int × Int × Int) (w : World) (e : Ending) (w' : World) : Prop := e = .returned (.tuple #[P4L r.1 r.2.1, .int .i64 r.2.2.1, .int .i64 r.2.2.2]) ∧ Below w.heap.size w w'

set_option maxHeartbeats 1000000 in
set_option maxRecDepth 100000 in
theorem Prefix4_parse (s : ByteArray) (at_ : Nat) (A : List Int) (m er : Int) (hs : s.size ≤ 140737488355328) (h1 : slashN (txt s) s.size 0 = at_) (hat : at_ ≤ s.size) (h4 : ∀ W, Calls Tryd.prog 14 #[.string (s.extract 0 at_)] W fun e w' => Par4R (A, m, er) W e w') (h9 : A.length = 4) (h10 : FitB A) (he : er ≠ 0) (w : World) :
    Calls Tryd.prog 23 #[.string s] w fun e w' => Px4 ([0, 0, 0, 0], 0, m, 20) w e w' := by
  generalize hQ : (fun e w' => Px4 ([0, 0, 0, 0], 0, m, 20) w e w') = Q
  have HQ : Hid _ := hQ
  clear hQ
  have hsl := fun W => slash_ref s W (by omega)
  rw [h1] at hsl
  have HSL : Hid _ := hsl
  have HPA : Hid _ := h4
  have q2 : (at_ : Int) ≤ (s.size : Int) := by omega
  have hb0 := blk_new w (.cells zero5V.toArray 38)
  have hB0 := (Below.refl w.heap.size w).alloc (Nat.le_refl _) (.cells zero5V.toArray 38)
  have hz0 : (w.alloc (.cells zero5V.toArray 38)).heap.size = w.heap.size + 1 := by simp
  have HZ0 : Hid _ := hz0
  clear hz0 hsl h1 h4
  have q0 : (er != 0) = true := by simpa using he
  go_enter Tryd.func23, Tryd.ntmps23
  go_wp2_with fail
  generalize hW : w.alloc (.cells zero5V.toArray 38) = W0 at *
  clear hW
  refine (HSL.out W0).mono ?_
  rintro e w1 ⟨rfl, rfl⟩
  go_wp2_with fail
  refine (HPA.out _).mono ?_
  rintro e w2 ⟨rfl, hB2⟩
  have hz0 := HZ0.out
  have hb2 := (hB2.block _ (by omega)).trans hb0
  have hBw2 := hB0.trans (hB2.mono (by omega))
  obtain ⟨w3, hst, bx3, hB3⟩ := box_new Tryd.sizeOf23 w2 zero4L rfl (b8 A) (by rw [b8_length, h9]) (b8_one _)
  have hlt2 : w.heap.size < w2.heap.size := Nat.lt_of_lt_of_le (by omega) hB2.size
  have hb3 := (hB3.block _ hlt2).trans hb2
  have hBw3 := hBw2.trans (hB3.mono hBw2.size)
  have HST : Hid _ := hst
  clear hst hz0 HZ0 hb0 hB0 hb2 hBw2 HPA HSL
  obtain ⟨wz, hstz, bz, honz⟩ := box_store Tryd.sizeOf38 hb3 rfl zero5V rfl (by simp [Value.oneCell'])
  have HSZ : Hid _ := hstz
  have HLV : Hid _ := agg_loadVar (t := 38) Tryd.isAgg38 Tryd.sizeOf38 rfl (CellsAt.of_blk bz)
  have HBE : Hid (Below w.heap.size w wz) := hBw3.trans (honz.below (Nat.le_refl _))
  clear hstz bz honz
  unfold Par4
  dsimp only
  go_wp2_with first
    | ((with_reducible show wpList _ _ _ _ _ _); refine armS (.tmp 6) (.tmp 18) 23 rfl rfl rfl rfl HST.out ?_)
    | ((with_reducible show wpList _ _ _ _ _ _); refine armS (.tmp 2) (.tmp 23) 38 rfl rfl rfl rfl HSZ.out ?_)
  refine bodyPost_ret (res3c Tryd.results23 rfl HLV.out) rfl ?_
  rw [← HQ.out]
  exact ⟨rfl, HBE.out⟩

set_option maxHeartbeats 1000000 in
set_option maxRecDepth 100000 in
theorem Prefix4_noslash (s : ByteArray) (at_ : Nat) (A : List Int) (m er : Int) (hs : s.size ≤ 140737488355328) (h1 : slashN (txt s) s.size 0 = at_) (hat : at_ ≤ s.size) (h4 : ∀ W, Calls Tryd.prog 14 #[.string (s.extract 0 at_)] W fun e w' => Par4R (A, m, er) W e w') (h9 : A.length = 4) (h10 : FitB A) (he : er = 0) (hn : at_ = s.size) (w : World) :
    Calls Tryd.prog 23 #[.string s] w fun e w' => Px4 ([0, 0, 0, 0], 0, (at_ : Int), 20) w e w' := by
  subst he
  generalize hQ : (fun e w' => Px4 ([0, 0, 0, 0], 0, (at_ : Int), 20) w e w') = Q
  have HQ : Hid _ := hQ
  clear hQ
  have hsl := fun W => slash_ref s W (by omega)
  rw [h1] at hsl
  have HSL : Hid _ := hsl
  have HPA : Hid _ := h4
  have q2 : (at_ : Int) ≤ (s.size : Int) := by omega
  have hb0 := blk_new w (.cells zero5V.toArray 38)
  have hB0 := (Below.refl w.heap.size w).alloc (Nat.le_refl _) (.cells zero5V.toArray 38)
  have hz0 : (w.alloc (.cells zero5V.toArray 38)).heap.size = w.heap.size + 1 := by simp
  have HZ0 : Hid _ := hz0
  clear hz0 hsl h1 h4
  have q1 : ((at_ : Int) == (s.size : Int)) = true := by simp; omega
  clear hn
  go_enter Tryd.func23, Tryd.ntmps23
  go_wp2_with fail
  generalize hW : w.alloc (.cells zero5V.toArray 38) = W0 at *
  clear hW
  refine (HSL.out W0).mono ?_
  rintro e w1 ⟨rfl, rfl⟩
  go_wp2_with fail
  refine (HPA.out _).mono ?_
  rintro e w2 ⟨rfl, hB2⟩
  have hz0 := HZ0.out
  have hb2 := (hB2.block _ (by omega)).trans hb0
  have hBw2 := hB0.trans (hB2.mono (by omega))
  obtain ⟨w3, hst, bx3, hB3⟩ := box_new Tryd.sizeOf23 w2 zero4L rfl (b8 A) (by rw [b8_length, h9]) (b8_one _)
  have hlt2 : w.heap.size < w2.heap.size := Nat.lt_of_lt_of_le (by omega) hB2.size
  have hb3 := (hB3.block _ hlt2).trans hb2
  have hBw3 := hBw2.trans (hB3.mono hBw2.size)
  have HST : Hid _ := hst
  clear hst hz0 HZ0 hb0 hB0 hb2 hBw2 HPA HSL
  obtain ⟨wz, hstz, bz, honz⟩ := box_store Tryd.sizeOf38 hb3 rfl zero5V rfl (by simp [Value.oneCell'])
  have HSZ : Hid _ := hstz
  have HLV : Hid _ := agg_loadVar (t := 38) Tryd.isAgg38 Tryd.sizeOf38 rfl (CellsAt.of_blk bz)
  have HBE : Hid (Below w.heap.size w wz) := hBw3.trans (honz.below (Nat.le_refl _))
  clear hstz bz honz
  unfold Par4
  dsimp only
  go_wp2_with first
    | ((with_reducible show wpList _ _ _ _ _ _); refine armS (.tmp 6) (.tmp 18) 23 rfl rfl rfl rfl HST.out ?_)
    | ((with_reducible show wpList _ _ _ _ _ _); refine armS (.tmp 2) (.tmp 29) 38 rfl rfl rfl rfl HSZ.out ?_)
  refine bodyPost_ret (res3c Tryd.results23 rfl HLV.out) rfl ?_
  rw [← HQ.out]
  exact ⟨rfl, HBE.out⟩

set_option maxHeartbeats 1000000 in
set_option maxRecDepth 100000 in
theorem Prefix4_badlen (s : ByteArray) (at_ : Nat) (A : List Int) (m er : Int) (hs : s.size ≤ 140737488355328) (h1 : slashN (txt s) s.size 0 = at_) (hat : at_ ≤ s.size) (h4 : ∀ W, Calls Tryd.prog 14 #[.string (s.extract 0 at_)] W fun e w' => Par4R (A, m, er) W e w') (h9 : A.length = 4) (h10 : FitB A) (he : er = 0) (hn : at_ < s.size) (N : Nat) (h5 : lenN (txt (s.extract (at_ + 1) s.size)) 32 (s.extract (at_ + 1) s.size).size 0 = N) (hN : N < (s.extract (at_ + 1) s.size).size ∨ N = 0) (hN3 : N ≤ 3) (w : World) :
    Calls Tryd.prog 23 #[.string s] w fun e w' => Px4 ([0, 0, 0, 0], 0, ((at_ + 1 + N : Nat) : Int), 20) w e w' := by
  subst he
  have hes : (s.extract (at_ + 1) s.size).size = s.size - (at_ + 1) := by rw [ByteArray.size_extract]; omega
  have hlen := fun W => length_ref (s.extract (at_ + 1) s.size) 32 W (by omega) (by decide)
  rw [h5] at hlen
  have HLEN : Hid _ := hlen
  generalize hQ : (fun e w' => Px4 ([0, 0, 0, 0], 0, ((at_ + 1 + N : Nat) : Int), 20) w e w') = Q
  have HQ : Hid _ := hQ
  clear hQ
  have hsl := fun W => slash_ref s W (by omega)
  rw [h1] at hsl
  have HSL : Hid _ := hsl
  have HPA : Hid _ := h4
  have q2 : (at_ : Int) ≤ (s.size : Int) := by omega
  have hb0 := blk_new w (.cells zero5V.toArray 38)
  have hB0 := (Below.refl w.heap.size w).alloc (Nat.le_refl _) (.cells zero5V.toArray 38)
  have hz0 : (w.alloc (.cells zero5V.toArray 38)).heap.size = w.heap.size + 1 := by simp
  have HZ0 : Hid _ := hz0
  clear hz0 hsl h1 h4
  generalize hr : s.extract (at_ + 1) s.size = r at *
  have HRR : Hid _ := hr
  have q1 : ((at_ : Int) == (s.size : Int)) = false := by simp; omega
  have q3 : (at_ : Int) + 1 ≤ (s.size : Int) := by omega
  clear hr hlen h5
  have hqq : ((N : Int) < (r.size : Int)) ∨ ((r.size : Int) ≤ (N : Int) ∧ ((N : Int) == 0) = true) := by
    rcases hN with h | h
    · exact .inl (by omega)
    · by_cases hlt : (N : Int) < (r.size : Int)
      · exact .inl hlt
      · exact .inr ⟨by omega, by simp; omega⟩
  have hrs : r.size ≤ 140737488355328 := by omega
  go_enter Tryd.func23, Tryd.ntmps23
  go_wp2_with fail
  generalize hW : w.alloc (.cells zero5V.toArray 38) = W0 at *
  clear hW
  refine (HSL.out W0).mono ?_
  rintro e w1 ⟨rfl, rfl⟩
  go_wp2_with fail
  refine (HPA.out _).mono ?_
  rintro e w2 ⟨rfl, hB2⟩
  have hz0 := HZ0.out
  have hb2 := (hB2.block _ (by omega)).trans hb0
  have hBw2 := hB0.trans (hB2.mono (by omega))
  obtain ⟨w3, hst, bx3, hB3⟩ := box_new Tryd.sizeOf23 w2 zero4L rfl (b8 A) (by rw [b8_length, h9]) (b8_one _)
  have hlt2 : w.heap.size < w2.heap.size := Nat.lt_of_lt_of_le (by omega) hB2.size
  have hb3 := (hB3.block _ hlt2).trans hb2
  have hBw3 := hBw2.trans (hB3.mono hBw2.size)
  have HST : Hid _ := hst
  clear hst hz0 HZ0 hb0 hB0 hb2 hBw2 HPA HSL
  obtain ⟨wz, hstz, bz, honz⟩ := box_store Tryd.sizeOf38 hb3 rfl zero5V rfl (by simp [Value.oneCell'])
  have HSZ : Hid _ := hstz
  have HLV : Hid _ := agg_loadVar (t := 38) Tryd.isAgg38 Tryd.sizeOf38 rfl (CellsAt.of_blk bz)
  have HBE : Hid (Below w.heap.size w wz) := hBw3.trans (honz.below (Nat.le_refl _))
  clear hstz bz honz
  unfold Par4
  dsimp only
  go_wp2_with (((with_reducible show wpList _ _ _ _ _ _); refine armS (.tmp 6) (.tmp 18) 23 rfl rfl rfl rfl HST.out ?_))
  rw [HRR.out]
  refine (HLEN.out _).mono ?_
  rintro e w4 ⟨rfl, rfl⟩
  rcases hqq with hqq | ⟨hqq, hq0⟩
  · have qd : decide ((N : Int) < (r.size : Int)) = true := decide_eq_true hqq
    go_wp2_with (((with_reducible show wpList _ _ _ _ _ _); refine armS (.tmp 2) (.tmp 45) 38 rfl rfl rfl rfl HSZ.out ?_))
    refine bodyPost_ret (res3c Tryd.results23 rfl HLV.out) rfl ?_
    rw [← HQ.out]
    exact ⟨by simp only [Int.natCast_add, Int.natCast_one]; try rfl, HBE.out⟩
  · have qd : decide ((N : Int) < (r.size : Int)) = false := decide_eq_false (by omega)
    go_wp2_with (((with_reducible show wpList _ _ _ _ _ _); refine armS (.tmp 2) (.tmp 45) 38 rfl rfl rfl rfl HSZ.out ?_))
    refine bodyPost_ret (res3c Tryd.results23 rfl HLV.out) rfl ?_
    rw [← HQ.out]
    exact ⟨by simp only [Int.natCast_add, Int.natCast_one]; try rfl, HBE.out⟩

set_option maxHeartbeats 1000000 in
set_option maxRecDepth 100000 in
theorem Prefix4_fit (s : ByteArray) (at_ : Nat) (A : List Int) (m er : Int) (hs : s.size ≤ 140737488355328) (h1 : slashN (txt s) s.size 0 = at_) (hat : at_ ≤ s.size) (h4 : ∀ W, Calls Tryd.prog 14 #[.string (s.extract 0 at_)] W fun e w' => Par4R (A, m, er) W e w') (h9 : A.length = 4) (h10 : FitB A) (he : er = 0) (hn : at_ + 1 < s.size) (n : Int) (h5 : lenN (txt (s.extract (at_ + 1) s.size)) 32 (s.extract (at_ + 1) s.size).size 0 = (s.extract (at_ + 1) s.size).size) (h5b : (s.extract (at_ + 1) s.size).size ≤ 3) (h6 : (txt (s.extract (at_ + 1) s.size)).all digB = true) (h7 : numF 0 (txt (s.extract (at_ + 1) s.size)) = n) (h8 : okP4L A n = true) (h11 : 0 ≤ n ∧ n ≤ 32) (w : World) :
    Calls Tryd.prog 23 #[.string s] w fun e w' => Px4 (A, n, 0, 0) w e w' := by
  subst he
  have hes : (s.extract (at_ + 1) s.size).size = s.size - (at_ + 1) := by rw [ByteArray.size_extract]; omega
  have hlen := fun W => length_ref (s.extract (at_ + 1) s.size) 32 W (by omega) (by decide)
  rw [h5] at hlen
  have HLEN : Hid _ := hlen
  have hnum := fun W => number_ref (s.extract (at_ + 1) s.size) W h6 (by omega)
  rw [h7] at hnum
  have hck := fun W => RCheck4_L A n W h10 h9 (by omega)
  rw [h8] at hck
  simp only [if_true, Bool.false_eq_true, if_false] at hck
  have HNUM : Hid (∀ W, Calls Tryd.prog 53 #[.string (s.extract (at_ + 1) s.size)] W fun e w' => ∃ u, e = .returned u ∧ (u = .int .i64 n ∧ w' = W)) := fun W => (hnum W).mono fun e w' h => ⟨_, h.1, rfl, h.2⟩
  have HCK : Hid _ := hck
  generalize hQ : (fun e w' => Px4 (A, n, 0, 0) w e w') = Q
  have HQ : Hid _ := hQ
  clear hQ
  have hsl := fun W => slash_ref s W (by omega)
  rw [h1] at hsl
  have HSL : Hid _ := hsl
  have HPA : Hid _ := h4
  have q2 : (at_ : Int) ≤ (s.size : Int) := by omega
  have hb0 := blk_new w (.cells zero5V.toArray 38)
  have hB0 := (Below.refl w.heap.size w).alloc (Nat.le_refl _) (.cells zero5V.toArray 38)
  have hz0 : (w.alloc (.cells zero5V.toArray 38)).heap.size = w.heap.size + 1 := by simp
  have HZ0 : Hid _ := hz0
  clear hz0 hsl h1 h4
  generalize hr : s.extract (at_ + 1) s.size = r at *
  have HRR : Hid _ := hr
  have q1 : ((at_ : Int) == (s.size : Int)) = false := by simp; omega
  have q3 : (at_ : Int) + 1 ≤ (s.size : Int) := by omega
  have q4 : ((r.size : Int) == 0) = false := by rw [beq_eq_false_iff_ne]; intro h; omega
  have hrs : r.size ≤ 100 := by omega
  clear hlen hnum hck h5 h6 h7 h8 hr hes
  go_enter Tryd.func23, Tryd.ntmps23
  go_wp2_with fail
  generalize hW : w.alloc (.cells zero5V.toArray 38) = W0 at *
  clear hW
  refine (HSL.out W0).mono ?_
  rintro e w1 ⟨rfl, rfl⟩
  go_wp2_with fail
  refine (HPA.out _).mono ?_
  rintro e w2 ⟨rfl, hB2⟩
  have hz0 := HZ0.out
  have hb2 := (hB2.block _ (by omega)).trans hb0
  have hBw2 := hB0.trans (hB2.mono (by omega))
  obtain ⟨w3, hst, bx3, hB3⟩ := box_new Tryd.sizeOf23 w2 zero4L rfl (b8 A) (by rw [b8_length, h9]) (b8_one _)
  have hlt2 : w.heap.size < w2.heap.size := Nat.lt_of_lt_of_le (by omega) hB2.size
  have hb3 := (hB3.block _ hlt2).trans hb2
  have hBw3 := hBw2.trans (hB3.mono hBw2.size)
  have HST : Hid _ := hst
  clear hst hz0 HZ0 hb0 hB0 hb2 hBw2 HPA HSL
  unfold Par4
  dsimp only
  go_wp2_with (((with_reducible show wpList _ _ _ _ _ _); refine armS (.tmp 6) (.tmp 18) 23 rfl rfl rfl rfl HST.out ?_))
  rw [HRR.out]
  refine (HLEN.out _).mono ?_
  rintro e w4 ⟨rfl, rfl⟩
  go_wp2_with fail
  obtain ⟨w5, hst5, bx5, hB5⟩ := box_new Tryd.sizeOf38 w4.drew zero5V rfl (cp4 A n) (cp4_length A n h9) (cp4_one A n)
  have HS5 : Hid _ := hst5
  have hb5 := (hB5.block w.heap.size (Nat.lt_of_lt_of_le hlt2 hB3.size)).trans hb3
  have hBw5 : Below w.heap.size w w5 := hBw3.drew.trans (hB5.mono hBw3.size)
  have HLP : Hid _ := agg_load (t := 38) Tryd.isAgg38 Tryd.sizeOf38 (vs := cp4 A n) (cp4_length A n h9) (CellsAt.of_blk bx5)
  have hb6 : w5.heap[w2.heap.size]? = some (.cells (b8 A).toArray 23) := (hB5.block w2.heap.size (Array.getElem?_eq_some_iff.1 bx3).1).trans bx3
  clear hst5
  refine wp_region_held (S := fun W => W.heap[w2.heap.size]? = some (.cells (b8 A).toArray 23)) (by kernel_rfl) ?_
  show wpAnyH _ _ _ _ _ 6 (Array.replicate 6 false) _ _
  refine take_one (i := 0) (d := some 50) (v := (A4L A)) rfl rfl rfl (by kernel_rfl) (by kernel_rfl) (by kernel_rfl) (fun _ _ d _ _ h => by cases d <;> exact h) (fun W hS => ex_loadA (.tmp 6) 23 rfl rfl (agg_load Tryd.isAgg23 Tryd.sizeOf23 (by rw [b8_length, h9]) (CellsAt.of_blk hS))) bx3 ?_
  simp only [Act.put, List.setIfInBounds_toArray, List.set_cons_zero, List.set_cons_succ]
  refine take_one (i := 1) (d := some 51) (v := (.string r)) rfl rfl rfl (by kernel_rfl) (by kernel_rfl) (by kernel_rfl) (fun _ _ d _ _ h => by cases d <;> exact h) (fun W hS => ex_moveA (.tmp 9) rfl rfl) bx3 ?_
  simp only [Act.put, List.setIfInBounds_toArray, List.set_cons_zero, List.set_cons_succ]
  have bx3a : (w4.drew.alloc (.cells zero5V.toArray 38)).heap[w2.heap.size]? = some (.cells (b8 A).toArray 23) := blk_alloc (w := w4.drew) bx3 _
  refine all_two (i1 := 2) (i2 := 4) (by kernel_rfl) rfl rfl rfl rfl ?_ ?_
  · refine wp_call (d := some 52) 53 _ rfl (by kernel_rfl) (HNUM.out _) ?_
    rintro _ _ ⟨rfl, rfl⟩
    refine ⟨bx3, ?_⟩
    simp only [Act.put, List.setIfInBounds_toArray, List.set_cons_zero, List.set_cons_succ]
    refine take_one (i := 3) (d := some 53) (v := (P4L A n)) rfl rfl rfl (by kernel_rfl) (by kernel_rfl) (by kernel_rfl) (fun _ _ d _ _ h => by cases d <;> exact h) (fun W hS => ex_buildA 38 [(0, .tmp 50), (1, .tmp 52)] rfl rfl (build4L A n h9 _)) bx3 ?_
    simp only [Act.put, List.setIfInBounds_toArray, List.set_cons_zero, List.set_cons_succ]
    refine all_one (i := 4) (by kernel_rfl) rfl rfl ?_
    refine wp_allocA (d := some 10) 38 rfl rfl (v := .pointer (some ⟨w4.drew.heap.size, 0, none⟩)) (w2 := w4.drew.alloc (.cells zero5V.toArray 38)) (by simp [execOp, go_sem]) ?_
    refine ⟨bx3a, ?_⟩
    simp only [Act.put, List.setIfInBounds_toArray, List.set_cons_zero, List.set_cons_succ]
    refine all_one (i := 5) (by kernel_rfl) rfl rfl ?_
    refine wp_storeA (.tmp 10) (.tmp 53) 38 rfl rfl rfl rfl HS5.out ?_
    refine ⟨hb6, ?_⟩
    refine wpAnyH_done (by kernel_rfl) ?_ _
    go_wp2_with ((with_reducible show wpList _ _ _ _ _ _); refine armL (.tmp 10) 38 rfl rfl rfl HLP.out ?_)
    refine (HCK.out w5).mono ?_
    rintro e w6 ⟨rfl, hB6⟩
    have hlt5 : w.heap.size < w5.heap.size := (Array.getElem?_eq_some_iff.1 hb5).1
    have hb6R := (hB6.block _ hlt5).trans hb5
    have hBw6 := hBw5.trans (hB6.mono hBw5.size)
    have bx6 := (hB6.block _ (Array.getElem?_eq_some_iff.1 bx5).1).trans bx5
    have HL2 : Hid _ := agg_load (t := 38) Tryd.isAgg38 Tryd.sizeOf38 (vs := cp4 A n) (cp4_length A n h9) (CellsAt.of_blk bx6)
    obtain ⟨wE, hst, bE, honE⟩ := box_store Tryd.sizeOf38 hb6R rfl (cp4 A n) (cp4_length A n h9) (cp4_one A n)
    have HLV : Hid _ := agg_loadVar (t := 38) Tryd.isAgg38 Tryd.sizeOf38 (vs := cp4 A n) (cp4_length A n h9) (CellsAt.of_blk bE)
    have HBE : Hid (Below w.heap.size w wE) := hBw6.trans (honE.below (Nat.le_refl _))
    have HSQ : Hid _ := hst
    clear hst bE honE hb6R hBw6 bx6 hB6 HCK
    go_wp2_with first
      | ((with_reducible show wpList _ _ _ _ _ _); refine armL (.tmp 10) 38 rfl rfl rfl HL2.out ?_)
      | ((with_reducible show wpList _ _ _ _ _ _); refine armS (.tmp 2) (.tmp 59) 38 rfl rfl rfl rfl HSQ.out ?_)
    refine bodyPost_ret (res3c Tryd.results23 rfl HLV.out) rfl ?_
    rw [← HQ.out]
    exact ⟨rfl, HBE.out⟩
  · refine wp_allocA (d := some 10) 38 rfl rfl (v := .pointer (some ⟨w4.drew.heap.size, 0, none⟩)) (w2 := w4.drew.alloc (.cells zero5V.toArray 38)) (by simp [execOp, go_sem]) ?_
    refine ⟨bx3a, ?_⟩
    simp only [Act.put, List.setIfInBounds_toArray, List.set_cons_zero, List.set_cons_succ]
    refine all_one (i := 2) (by kernel_rfl) rfl rfl ?_
    refine wp_call (d := some 52) 53 _ rfl (by kernel_rfl) (HNUM.out _) ?_
    rintro _ _ ⟨rfl, rfl⟩
    refine ⟨bx3a, ?_⟩
    simp only [Act.put, List.setIfInBounds_toArray, List.set_cons_zero, List.set_cons_succ]
    refine take_one (i := 3) (d := some 53) (v := (P4L A n)) rfl rfl rfl (by kernel_rfl) (by kernel_rfl) (by kernel_rfl) (fun _ _ d _ _ h => by cases d <;> exact h) (fun W hS => ex_buildA 38 [(0, .tmp 50), (1, .tmp 52)] rfl rfl (build4L A n h9 _)) bx3a ?_
    simp only [Act.put, List.setIfInBounds_toArray, List.set_cons_zero, List.set_cons_succ]
    refine all_one (i := 5) (by kernel_rfl) rfl rfl ?_
    refine wp_storeA (.tmp 10) (.tmp 53) 38 rfl rfl rfl rfl HS5.out ?_
    refine ⟨hb6, ?_⟩
    refine wpAnyH_done (by kernel_rfl) ?_ _
    go_wp2_with ((with_reducible show wpList _ _ _ _ _ _); refine armL (.tmp 10) 38 rfl rfl rfl HLP.out ?_)
    refine (HCK.out w5).mono ?_
    rintro e w6 ⟨rfl, hB6⟩
    have hlt5 : w.heap.size < w5.heap.size := (Array.getElem?_eq_some_iff.1 hb5).1
    have hb6R := (hB6.block _ hlt5).trans hb5
    have hBw6 := hBw5.trans (hB6.mono hBw5.size)
    have bx6 := (hB6.block _ (Array.getElem?_eq_some_iff.1 bx5).1).trans bx5
    have HL2 : Hid _ := agg_load (t := 38) Tryd.isAgg38 Tryd.sizeOf38 (vs := cp4 A n) (cp4_length A n h9) (CellsAt.of_blk bx6)
    obtain ⟨wE, hst, bE, honE⟩ := box_store Tryd.sizeOf38 hb6R rfl (cp4 A n) (cp4_length A n h9) (cp4_one A n)
    have HLV : Hid _ := agg_loadVar (t := 38) Tryd.isAgg38 Tryd.sizeOf38 (vs := cp4 A n) (cp4_length A n h9) (CellsAt.of_blk bE)
    have HBE : Hid (Below w.heap.size w wE) := hBw6.trans (honE.below (Nat.le_refl _))
    have HSQ : Hid _ := hst
    clear hst bE honE hb6R hBw6 bx6 hB6 HCK
    go_wp2_with first
      | ((with_reducible show wpList _ _ _ _ _ _); refine armL (.tmp 10) 38 rfl rfl rfl HL2.out ?_)
      | ((with_reducible show wpList _ _ _ _ _ _); refine armS (.tmp 2) (.tmp 59) 38 rfl rfl rfl rfl HSQ.out ?_)
    refine bodyPost_ret (res3c Tryd.results23 rfl HLV.out) rfl ?_
    rw [← HQ.out]
    exact ⟨rfl, HBE.out⟩


set_option maxHeartbeats 1000000 in
set_option maxRecDepth 100000 in
theorem Prefix4_host (s : ByteArray) (at_ : Nat) (A : List Int) (m er : Int) (hs : s.size ≤ 140737488355328) (h1 : slashN (txt s) s.size 0 = at_) (hat : at_ ≤ s.size) (h4 : ∀ W, Calls Tryd.prog 14 #[.string (s.extract 0 at_)] W fun e w' => Par4R (A, m, er) W e w') (h9 : A.length = 4) (h10 : FitB A) (he : er = 0) (hn : at_ + 1 < s.size) (n : Int) (h5 : lenN (txt (s.extract (at_ + 1) s.size)) 32 (s.extract (at_ + 1) s.size).size 0 = (s.extract (at_ + 1) s.size).size) (h5b : (s.extract (at_ + 1) s.size).size ≤ 3) (h6 : (txt (s.extract (at_ + 1) s.size)).all digB = true) (h7 : numF 0 (txt (s.extract (at_ + 1) s.size)) = n) (h8 : okP4L A n = false) (h11 : 0 ≤ n ∧ n ≤ 32) (w : World) :
    Calls Tryd.prog 23 #[.string s] w fun e w' => Px4 ([0, 0, 0, 0], 0, (at_ : Int), 21) w e w' := by
  subst he
  have hes : (s.extract (at_ + 1) s.size).size = s.size - (at_ + 1) := by rw [ByteArray.size_extract]; omega
  have hlen := fun W => length_ref (s.extract (at_ + 1) s.size) 32 W (by omega) (by decide)
  rw [h5] at hlen
  have HLEN : Hid _ := hlen
  have hnum := fun W => number_ref (s.extract (at_ + 1) s.size) W h6 (by omega)
  rw [h7] at hnum
  have hck := fun W => RCheck4_L A n W h10 h9 (by omega)
  rw [h8] at hck
  simp only [if_true, Bool.false_eq_true, if_false] at hck
  have HNUM : Hid (∀ W, Calls Tryd.prog 53 #[.string (s.extract (at_ + 1) s.size)] W fun e w' => ∃ u, e = .returned u ∧ (u = .int .i64 n ∧ w' = W)) := fun W => (hnum W).mono fun e w' h => ⟨_, h.1, rfl, h.2⟩
  have HCK : Hid _ := hck
  generalize hQ : (fun e w' => Px4 ([0, 0, 0, 0], 0, (at_ : Int), 21) w e w') = Q
  have HQ : Hid _ := hQ
  clear hQ
  have hsl := fun W => slash_ref s W (by omega)
  rw [h1] at hsl
  have HSL : Hid _ := hsl
  have HPA : Hid _ := h4
  have q2 : (at_ : Int) ≤ (s.size : Int) := by omega
  have hb0 := blk_new w (.cells zero5V.toArray 38)
  have hB0 := (Below.refl w.heap.size w).alloc (Nat.le_refl _) (.cells zero5V.toArray 38)
  have hz0 : (w.alloc (.cells zero5V.toArray 38)).heap.size = w.heap.size + 1 := by simp
  have HZ0 : Hid _ := hz0
  clear hz0 hsl h1 h4
  generalize hr : s.extract (at_ + 1) s.size = r at *
  have HRR : Hid _ := hr
  have q1 : ((at_ : Int) == (s.size : Int)) = false := by simp; omega
  have q3 : (at_ : Int) + 1 ≤ (s.size : Int) := by omega
  have q4 : ((r.size : Int) == 0) = false := by rw [beq_eq_false_iff_ne]; intro h; omega
  have hrs : r.size ≤ 100 := by omega
  clear hlen hnum hck h5 h6 h7 h8 hr hes
  go_enter Tryd.func23, Tryd.ntmps23
  go_wp2_with fail
  generalize hW : w.alloc (.cells zero5V.toArray 38) = W0 at *
  clear hW
  refine (HSL.out W0).mono ?_
  rintro e w1 ⟨rfl, rfl⟩
  go_wp2_with fail
  refine (HPA.out _).mono ?_
  rintro e w2 ⟨rfl, hB2⟩
  have hz0 := HZ0.out
  have hb2 := (hB2.block _ (by omega)).trans hb0
  have hBw2 := hB0.trans (hB2.mono (by omega))
  obtain ⟨w3, hst, bx3, hB3⟩ := box_new Tryd.sizeOf23 w2 zero4L rfl (b8 A) (by rw [b8_length, h9]) (b8_one _)
  have hlt2 : w.heap.size < w2.heap.size := Nat.lt_of_lt_of_le (by omega) hB2.size
  have hb3 := (hB3.block _ hlt2).trans hb2
  have hBw3 := hBw2.trans (hB3.mono hBw2.size)
  have HST : Hid _ := hst
  clear hst hz0 HZ0 hb0 hB0 hb2 hBw2 HPA HSL
  unfold Par4
  dsimp only
  go_wp2_with (((with_reducible show wpList _ _ _ _ _ _); refine armS (.tmp 6) (.tmp 18) 23 rfl rfl rfl rfl HST.out ?_))
  rw [HRR.out]
  refine (HLEN.out _).mono ?_
  rintro e w4 ⟨rfl, rfl⟩
  go_wp2_with fail
  obtain ⟨w5, hst5, bx5, hB5⟩ := box_new Tryd.sizeOf38 w4.drew zero5V rfl (cp4 A n) (cp4_length A n h9) (cp4_one A n)
  have HS5 : Hid _ := hst5
  have hb5 := (hB5.block w.heap.size (Nat.lt_of_lt_of_le hlt2 hB3.size)).trans hb3
  have hBw5 : Below w.heap.size w w5 := hBw3.drew.trans (hB5.mono hBw3.size)
  have HLP : Hid _ := agg_load (t := 38) Tryd.isAgg38 Tryd.sizeOf38 (vs := cp4 A n) (cp4_length A n h9) (CellsAt.of_blk bx5)
  have hb6 : w5.heap[w2.heap.size]? = some (.cells (b8 A).toArray 23) := (hB5.block w2.heap.size (Array.getElem?_eq_some_iff.1 bx3).1).trans bx3
  clear hst5
  refine wp_region_held (S := fun W => W.heap[w2.heap.size]? = some (.cells (b8 A).toArray 23)) (by kernel_rfl) ?_
  show wpAnyH _ _ _ _ _ 6 (Array.replicate 6 false) _ _
  refine take_one (i := 0) (d := some 50) (v := (A4L A)) rfl rfl rfl (by kernel_rfl) (by kernel_rfl) (by kernel_rfl) (fun _ _ d _ _ h => by cases d <;> exact h) (fun W hS => ex_loadA (.tmp 6) 23 rfl rfl (agg_load Tryd.isAgg23 Tryd.sizeOf23 (by rw [b8_length, h9]) (CellsAt.of_blk hS))) bx3 ?_
  simp only [Act.put, List.setIfInBounds_toArray, List.set_cons_zero, List.set_cons_succ]
  refine take_one (i := 1) (d := some 51) (v := (.string r)) rfl rfl rfl (by kernel_rfl) (by kernel_rfl) (by kernel_rfl) (fun _ _ d _ _ h => by cases d <;> exact h) (fun W hS => ex_moveA (.tmp 9) rfl rfl) bx3 ?_
  simp only [Act.put, List.setIfInBounds_toArray, List.set_cons_zero, List.set_cons_succ]
  have bx3a : (w4.drew.alloc (.cells zero5V.toArray 38)).heap[w2.heap.size]? = some (.cells (b8 A).toArray 23) := blk_alloc (w := w4.drew) bx3 _
  refine all_two (i1 := 2) (i2 := 4) (by kernel_rfl) rfl rfl rfl rfl ?_ ?_
  · refine wp_call (d := some 52) 53 _ rfl (by kernel_rfl) (HNUM.out _) ?_
    rintro _ _ ⟨rfl, rfl⟩
    refine ⟨bx3, ?_⟩
    simp only [Act.put, List.setIfInBounds_toArray, List.set_cons_zero, List.set_cons_succ]
    refine take_one (i := 3) (d := some 53) (v := (P4L A n)) rfl rfl rfl (by kernel_rfl) (by kernel_rfl) (by kernel_rfl) (fun _ _ d _ _ h => by cases d <;> exact h) (fun W hS => ex_buildA 38 [(0, .tmp 50), (1, .tmp 52)] rfl rfl (build4L A n h9 _)) bx3 ?_
    simp only [Act.put, List.setIfInBounds_toArray, List.set_cons_zero, List.set_cons_succ]
    refine all_one (i := 4) (by kernel_rfl) rfl rfl ?_
    refine wp_allocA (d := some 10) 38 rfl rfl (v := .pointer (some ⟨w4.drew.heap.size, 0, none⟩)) (w2 := w4.drew.alloc (.cells zero5V.toArray 38)) (by simp [execOp, go_sem]) ?_
    refine ⟨bx3a, ?_⟩
    simp only [Act.put, List.setIfInBounds_toArray, List.set_cons_zero, List.set_cons_succ]
    refine all_one (i := 5) (by kernel_rfl) rfl rfl ?_
    refine wp_storeA (.tmp 10) (.tmp 53) 38 rfl rfl rfl rfl HS5.out ?_
    refine ⟨hb6, ?_⟩
    refine wpAnyH_done (by kernel_rfl) ?_ _
    go_wp2_with ((with_reducible show wpList _ _ _ _ _ _); refine armL (.tmp 10) 38 rfl rfl rfl HLP.out ?_)
    refine (HCK.out w5).mono ?_
    rintro e w6 ⟨rfl, hB6⟩
    have hlt5 : w.heap.size < w5.heap.size := (Array.getElem?_eq_some_iff.1 hb5).1
    have hb6R := (hB6.block _ hlt5).trans hb5
    have hBw6 := hBw5.trans (hB6.mono hBw5.size)
    obtain ⟨wz, hstz, bz, honz⟩ := box_store Tryd.sizeOf38 hb6R rfl zero5V rfl (by simp [Value.oneCell'])
    have HSZ : Hid _ := hstz
    have HLV : Hid _ := agg_loadVar (t := 38) Tryd.isAgg38 Tryd.sizeOf38 rfl (CellsAt.of_blk bz)
    have HBE : Hid (Below w.heap.size w wz) := hBw6.trans (honz.below (Nat.le_refl _))
    clear hstz bz honz
    clear hb6R hBw6 hB6 HCK
    go_wp2_with (((with_reducible show wpList _ _ _ _ _ _); refine armS (.tmp 2) (.tmp 57) 38 rfl rfl rfl rfl HSZ.out ?_))
    refine bodyPost_ret (res3c Tryd.results23 rfl HLV.out) rfl ?_
    rw [← HQ.out]
    exact ⟨rfl, HBE.out⟩
  · refine wp_allocA (d := some 10) 38 rfl rfl (v := .pointer (some ⟨w4.drew.heap.size, 0, none⟩)) (w2 := w4.drew.alloc (.cells zero5V.toArray 38)) (by simp [execOp, go_sem]) ?_
    refine ⟨bx3a, ?_⟩
    simp only [Act.put, List.setIfInBounds_toArray, List.set_cons_zero, List.set_cons_succ]
    refine all_one (i := 2) (by kernel_rfl) rfl rfl ?_
    refine wp_call (d := some 52) 53 _ rfl (by kernel_rfl) (HNUM.out _) ?_
    rintro _ _ ⟨rfl, rfl⟩
    refine ⟨bx3a, ?_⟩
    simp only [Act.put, List.setIfInBounds_toArray, List.set_cons_zero, List.set_cons_succ]
    refine take_one (i := 3) (d := some 53) (v := (P4L A n)) rfl rfl rfl (by kernel_rfl) (by kernel_rfl) (by kernel_rfl) (fun _ _ d _ _ h => by cases d <;> exact h) (fun W hS => ex_buildA 38 [(0, .tmp 50), (1, .tmp 52)] rfl rfl (build4L A n h9 _)) bx3a ?_
    simp only [Act.put, List.setIfInBounds_toArray, List.set_cons_zero, List.set_cons_succ]
    refine all_one (i := 5) (by kernel_rfl) rfl rfl ?_
    refine wp_storeA (.tmp 10) (.tmp 53) 38 rfl rfl rfl rfl HS5.out ?_
    refine ⟨hb6, ?_⟩
    refine wpAnyH_done (by kernel_rfl) ?_ _
    go_wp2_with ((with_reducible show wpList _ _ _ _ _ _); refine armL (.tmp 10) 38 rfl rfl rfl HLP.out ?_)
    refine (HCK.out w5).mono ?_
    rintro e w6 ⟨rfl, hB6⟩
    have hlt5 : w.heap.size < w5.heap.size := (Array.getElem?_eq_some_iff.1 hb5).1
    have hb6R := (hB6.block _ hlt5).trans hb5
    have hBw6 := hBw5.trans (hB6.mono hBw5.size)
    obtain ⟨wz, hstz, bz, honz⟩ := box_store Tryd.sizeOf38 hb6R rfl zero5V rfl (by simp [Value.oneCell'])
    have HSZ : Hid _ := hstz
    have HLV : Hid _ := agg_loadVar (t := 38) Tryd.isAgg38 Tryd.sizeOf38 rfl (CellsAt.of_blk bz)
    have HBE : Hid (Below w.heap.size w wz) := hBw6.trans (honz.below (Nat.le_refl _))
    clear hstz bz honz
    clear hb6R hBw6 hB6 HCK
    go_wp2_with (((with_reducible show wpList _ _ _ _ _ _); refine armS (.tmp 2) (.tmp 57) 38 rfl rfl rfl rfl HSZ.out ?_))
    refine bodyPost_ret (res3c Tryd.results23 rfl HLV.out) rfl ?_
    rw [← HQ.out]
    exact ⟨rfl, HBE.out⟩


end Go.Proofs.YtlpbffcijhgelaaDoor
