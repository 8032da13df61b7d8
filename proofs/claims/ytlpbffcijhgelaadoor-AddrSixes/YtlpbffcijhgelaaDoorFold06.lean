/-
  The document's Whole6, where nothing stands behind the last colon.
  The walk of the document's Whole6, where nothing stands behind the last colon.
  awake answers true in every world above one that holds the tables.
-/
import Derived.Test.YtlpbffcijhgelaaDoorQa7
import Derived.Laws.OwnMore
import Derived.Test.YtlpbffcijhgelaaDoorFold05
namespace Go.Proofs.YtlpbffcijhgelaaDoor
set_option linter.unusedVariables false
set_option linter.unusedSimpArgs false
open Go Go.RowKit

/-- The groups behind k rounds. -/
def outK (l : List Int) (g k : Nat) : List Int := if k ≤ g then l.take k else l.take g ++ List.replicate (8 - l.length) 0 ++ (l.drop g).take (k - g)

/-- Behind the inner loop of round k. -/
def midK (l : List Int) (g k : Nat) : List Int := if k = g then l.take g ++ List.replicate (8 - l.length) 0 else outK l g k

theorem midK_next (l : List Int) (g k : Nat) (x : Int) (hg : g ≤ l.length) (h : l[k]? = some x) : midK l g k ++ [x] = outK l g (k + 1) := by
  obtain ⟨hk, rfl⟩ := List.getElem?_eq_some_iff.1 h
  unfold midK outK
  by_cases c : k = g
  · subst c
    rw [if_pos rfl, if_neg (by omega), Nat.add_sub_cancel_left]
    congr 1
    rw [List.drop_eq_getElem_cons hk]
    rfl
  · rw [if_neg c]
    by_cases d : k ≤ g
    · rw [if_pos d, if_pos (by omega), List.take_succ_eq_append_getElem hk]
    · rw [if_neg d, if_neg (by omega), List.append_assoc]
      congr 1
      have e : k + 1 - g = (k - g) + 1 := by omega
      have hl : k - g < (l.drop g).length := by rw [List.length_drop]; omega
      rw [e, List.take_succ_eq_append_getElem hl]
      congr 2
      rw [List.getElem_drop]
      congr 1
      omega
theorem midK_last (l : List Int) (g : Nat) (hg : g ≤ l.length) : midK l g l.length = outK l g (l.length + 1) := by
  unfold midK outK
  by_cases c : l.length = g
  · rw [if_pos c, if_neg (by omega), ← c, List.drop_length]
    simp
  · rw [if_neg c, if_neg (by omega), if_neg (by omega), List.take_of_length_le (l := l.drop g) (i := l.length - g) (by rw [List.length_drop]; omega), List.take_of_length_le (l := l.drop g) (i := l.length + 1 - g) (by rw [List.length_drop]; omega)]
theorem outK_len (l : List Int) (g k : Nat) (h7 : l.length ≤ 7) : (outK l g k).length ≤ 30 ∧ (midK l g k).length ≤ 30 := by
  have h1 : (outK l g k).length ≤ 30 := by
    unfold outK
    split <;> simp <;> omega
  refine ⟨h1, ?_⟩
  unfold midK
  split
  · simp; omega
  · exact h1
theorem outK_all (l : List Int) (g : Nat) (hg : g ≤ l.length) : outK l g (l.length + 1) = l.take g ++ List.replicate (8 - l.length) 0 ++ l.drop g := by
  unfold outK
  rw [if_neg (by omega), List.take_of_length_le (l := l.drop g) (by rw [List.length_drop]; omega)]

/-- One number more. -/
theorem own_num {w : World} {base : Nat} {v : Value} {xs : List Int} (h : w.ownsRow base 3 1 v xs.length (intsL xs)) (hb : base ≤ w.heap.size) (hn : xs.length ≤ 1000) (z : Int) (ty : TypeId) :
    ∃ v' w1, (Builtin.append_ #[87, 87] ty #[v, .slice (some ⟨w.heap.size, 0, none⟩) 1 1]).run Tryd.prog (w.alloc (.cells #[.int .i64 z] 3)) = .ok v' w1 ∧ w1.ownsRow base 3 1 v' (xs ++ [z]).length (intsL (xs ++ [z])) ∧ w.grownBy w1 v.ownBlock := by
  obtain ⟨v', w1, hrun, hown', hgrow, _⟩ := own_lit elem_int h hb (by omega) (by decide) [.int .i64 z] 1 rfl (by decide) (fun u hu => by simp at hu; subst hu; rfl) ty #[.int .i64 z] rfl
  have e : intsL xs ++ [.int .i64 z] = intsL (xs ++ [z]) := by simp [intsL]
  have e2 : xs.length + 1 = (xs ++ [z]).length := by simp
  rw [e, e2] at hown'
  exact ⟨v', w1, hrun, hown', hgrow⟩

theorem below_grown {B : Nat} {u w w1 : World} {v : Value} {n : Nat} {xs : List Value} {e : TypeId} (hB : Below B u w) (hown : w.ownsRow B e 1 v n xs) (hg : w.grownBy w1 v.ownBlock) (hb : B ≤ w.heap.size) : Below B u w1 :=
  hB.grown hg hb (fun j hj => (hown.lt j hj).1)

end Go.Proofs.YtlpbffcijhgelaaDoor

namespace Go.Proofs.YtlpbffcijhgelaaDoor
set_option linter.unusedVariables false
set_option linter.unusedSimpArgs false
open Go Go.RowKit

def Whole6Post (l : List Int) (ok : Bool) (w : World) (e : Ending) (w' : World) : Prop :=
  ∃ v, e = .returned (.tuple #[v, .bool ok]) ∧ w'.ownsRow w.heap.size 3 1 v l.length (intsL l) ∧ Below w.heap.size w w'

theorem row_base {w : World} {base base' n : Nat} {e : TypeId} {v : Value} {xs : List Value} (h : w.ownsRow base e 1 v n xs) (hb : base' ≤ base) : w.ownsRow base' e 1 v n xs :=
  ⟨h.1, h.2.imp id (fun ⟨g, cap, cur, hv, hg, r⟩ => ⟨g, cap, cur, hv, Nat.le_trans hb hg, r⟩)⟩

set_option maxHeartbeats 4000000 in
set_option maxRecDepth 100000 in
theorem Whole6_empty (s : ByteArray) (v : Value) (L : List Int) (base : Nat) (w : World) (hown : w.ownsRow base 3 1 v L.length (intsL L)) (h7 : L.length ≤ 7) :
    Calls Tryd.prog 58 #[.string s, .agg (sixL v (L.length : Int) ⟨#[]⟩).toArray] w fun e w' => Whole6Post (L ++ List.replicate (8 - L.length) 0) true w e w' := by
  generalize hQ : (fun e w' => Whole6Post (L ++ List.replicate (8 - L.length) 0) true w e w') = Q
  have HQ : Hid _ := hQ
  clear hQ
  obtain ⟨a, cap, rfl, hlen, hz⟩ := own_form hown
  have hbx := blk_new w (.cells (sixL (.slice a L.length cap) (L.length : Int) ⟨#[]⟩).toArray 89)
  have hB0 := (Below.refl w.heap.size w).alloc (Nat.le_refl _) (.cells (sixL (.slice a L.length cap) (L.length : Int) ⟨#[]⟩).toArray 89)
  have hz0 : (w.alloc (.cells (sixL (.slice a L.length cap) (L.length : Int) ⟨#[]⟩).toArray 89)).heap.size = w.heap.size + 1 := by simp
  have hgr := fun W => group_ref ⟨#[]⟩ W (by decide)
  have eg : grpB (txt ⟨#[]⟩) = false := rfl
  rw [eg] at hgr
  have HG : Hid _ := hgr
  clear hgr eg
  go_enter Tryd.func58, Tryd.ntmps58
  generalize hW0 : w.alloc (.cells (sixL (.slice a L.length cap) (L.length : Int) ⟨#[]⟩).toArray 89) = W0 at *
  have hbxA : ∀ y : Hi W0, y.W.heap[w.heap.size]? = _ := fun y => Hi.blk hbx y
  have hown1 := World.ownsRow_lit (base := W0.heap.size) (e := 3) (size := 1) W0 #[] 0 (Nat.le_refl _) (by decide) rfl
  have hcL : ∀ (x : Addr), a = some x → ∀ (j : Nat) u, (intsL L)[j]? = some u → (W0.alloc (.cells #[] 3)).cell? (x.add j) = some u := by
    intro x hx j u hj
    rcases hz with hz | ⟨g, hg, _, hgl, hc⟩
    · rw [List.length_eq_zero_iff.1 hz] at hj
      simp [intsL] at hj
    · rw [hx] at hg
      cases hg
      rw [Go.WideShapes.add_plain]
      have e1 := hc j u hj
      have hb1 : Below W0.heap.size W0 (W0.alloc (.cells #[] 3)) := (Below.refl _ W0).alloc (Nat.le_refl _) _
      rw [Nat.zero_add]
      exact (hb1.cell (p := ⟨g, j, none⟩) (Nat.lt_of_lt_of_le hgl hB0.size)).trans ((hB0.cell (p := ⟨g, j, none⟩) hgl).trans e1)
  obtain ⟨v2, W2, hrun, hown2, hgrow, _⟩ := own_append elem_int (c := cap) (m := L.length) hown1 a (intsL L) (by simp [intsL]) (fun h => by
      rcases hz with hz | ⟨g, hg, _⟩
      · exact hz
      · rw [h] at hg; cases hg) hcL (fun u hu => by obtain ⟨z, _, rfl⟩ := List.mem_map.1 hu; rfl) (by unfold maxLen; omega) (by omega) (by simp) 87
  simp only [Array.toList_empty, List.nil_append, Nat.zero_add] at hown2
  obtain ⟨a2, cap2, rfl, _, hz2⟩ := own_form hown2
  have hB2 : Below W0.heap.size W0 W2 := ((Below.refl _ W0).alloc (Nat.le_refl _) _).grown hgrow (by simp) (fun k hk => (hown1.lt k hk).1)
  have hbx2 : ∀ y : Hi W2, y.W.heap[w.heap.size]? = some (.cells (sixL (.slice a L.length cap) (L.length : Int) ⟨#[]⟩).toArray 89) := fun y => Hi.blk ((hB2.block _ (by omega)).trans hbx) y
  have hc0 : ∀ y : Hi W2, y.W.cell? ⟨w.heap.size, 0, none⟩ = some (.slice a L.length cap) := fun y => blk_cell (hbx2 y) rfl
  have hc1 : ∀ y : Hi W2, y.W.cell? ⟨w.heap.size, 1, none⟩ = some (.int .i64 (L.length : Int)) := fun y => blk_cell (hbx2 y) rfl
  have hc2 : ∀ y : Hi W2, y.W.cell? ⟨w.heap.size, 2, none⟩ = some (.string ⟨#[]⟩) := fun y => blk_cell (hbx2 y) rfl
  have H0 : Hid _ := hrun
  have d0 : (W0.alloc (.cells #[] 3)).cell? ⟨w.heap.size, 0, none⟩ = some (.slice a L.length cap) := blk_cell (blk_alloc hbx _) rfl
  have e2 := hc2 (Hi.refl W2)
  have e1 := hc1 (Hi.refl W2)
  have e0 := hc0 (Hi.refl W2)
  simp only [Hi.refl] at e0 e1 e2
  have hB3 : Below w.heap.size w W2 := hB0.trans (hB2.mono (by omega))
  have hsz2 : w.heap.size + 1 ≤ W2.heap.size := by have := hB2.size; omega
  have HZ0 : Hid _ := hz0
  clear hrun hown1 hgrow hcL hbxA hz0
  go_wp2_with (at_builtin; refine wpList_append_run rfl _ _ _ _ rfl rfl rfl H0.out ?_; clear H0)
  refine (HG.out W2).mono ?_
  rintro e W3 ⟨rfl, rfl⟩
  have q0 : ((L.length : Int) == (L.length : Int)) = true := by simp
  have hl7 : ((L.length : Nat) : Int) ≤ 7 := by omega
  go_wp2
  go_loopw [10, 11] (fun out i wr => ∃ k : Nat, k ≤ L.length + 1 ∧ i = .int .i64 k ∧ wr.ownsRow W3.heap.size 3 1 out (outK L L.length k).length (intsL (outK L L.length k)) ∧ Below W3.heap.size W3 wr) (fun _ i _ => L.length + 1 - (intOf i).toNat)
  case atStart => exact ⟨0, Nat.zero_le _, rfl, World.ownsRow_nil _ _ _ _, Below.refl _ _⟩
  case round =>
    obtain ⟨k, hk, rfl, hout, hBr⟩ := hrel
    have hszr := hBr.size
    by_cases hlt : k ≤ L.length
    · have hmk := outK_len L L.length k h7
      by_cases hkn : k = L.length
      · subst hkn
        have hst : outK L L.length L.length = L := by
          unfold outK
          rw [if_pos (Nat.le_refl _), List.take_of_length_le (Nat.le_refl _)]
        rw [hst] at hout
        have HO : Hid _ := hout
        clear hout
        go_wp2
        go_loopw [10, 12] (fun out j wr => ∃ m : Nat, m ≤ 8 - L.length ∧ j = .int .i64 (L.length + m : Nat) ∧ wr.ownsRow W3.heap.size 3 1 out (L ++ List.replicate m 0).length (intsL (L ++ List.replicate m 0)) ∧ Below W3.heap.size W3 wr) (fun _ j _ => 8 - (intOf j).toNat)
        case atStart => exact ⟨0, Nat.zero_le _, rfl, by rw [List.replicate_zero, List.append_nil]; exact HO.out, hBr⟩
        case round =>
          clear HO
          obtain ⟨m, hm, rfl, hou, hBq⟩ := hrel
          have hszq := hBq.size
          by_cases hm8 : L.length + m < 8
          · obtain ⟨v', w1, hrun, hown', hgrow⟩ := own_num hou hszq (by simp; omega) 0 87
            have hB1 := below_grown hBq hou hgrow hszq
            have e : L ++ List.replicate m 0 ++ [0] = L ++ List.replicate (m + 1) 0 := by rw [List.append_assoc, List.replicate_succ']
            rw [e] at hown'
            have H0 : Hid _ := hrun
            have HO : Hid _ := hown'
            have HB1 : Hid _ := hB1
            have f1 := (Hi.mk wr (hBq)).below.cell (p := ⟨w.heap.size, 1, none⟩) (by show w.heap.size < W3.heap.size; omega)
            have f2 : wr.cell? ⟨w.heap.size, 1, none⟩ = some (.int .i64 (L.length : Int)) := f1.trans e1
            have hq : ((L.length + m : Nat) : Int) < 8 := by omega
            clear hrun hown' hB1 hou e f1
            go_wp2_with (at_builtin; refine wpList_append_run rfl _ _ _ _ rfl rfl rfl H0.out ?_; clear H0)
            exact ⟨⟨m + 1, by omega, by simp; omega, HO.out, HB1.out⟩, by simp [intOf]; omega⟩
          · obtain rfl : m = 8 - L.length := by omega
            have f1 := (Hi.mk wr (hBq)).below.cell (p := ⟨w.heap.size, 1, none⟩) (by show w.heap.size < W3.heap.size; omega)
            have f2 : wr.cell? ⟨w.heap.size, 1, none⟩ = some (.int .i64 (L.length : Int)) := f1.trans e1
            have hq : ¬ ((L.length + (8 - L.length) : Nat) : Int) < 8 := by omega
            have ho := outK_all L L.length (Nat.le_refl _)
            rw [List.take_of_length_le (Nat.le_refl _), List.drop_length, List.append_nil] at ho
            have HO : Hid _ := hou
            have HE : Hid _ := ho
            clear hou f1 ho
            go_wp2
            exact ⟨⟨L.length + 1, by omega, by simp, by rw [HE.out]; exact HO.out, hBq⟩, by simp [intOf]⟩
      · have hkl : k < L.length := by omega
        have hx : L[k]? = some L[k] := by simp [hkl]
        have hmn := midK_next L L.length k _ (Nat.le_refl _) hx
        have hmo : midK L L.length k = outK L L.length k := by unfold midK; rw [if_neg hkn]
        rw [hmo] at hmn
        rcases hz2 with hz2 | ⟨g, rfl, hgb, hgl, hc⟩
        · omega
        have hck := (hBr.cell (p := ⟨g, k, none⟩) hgl).trans (hc k (.int .i64 L[k]) (by rw [intsL, List.getElem?_map, hx]; rfl))
        have f1 := (hBr.cell (p := ⟨w.heap.size, 1, none⟩) (by show w.heap.size < W3.heap.size; omega)).trans e1
        obtain ⟨v', w1, hrun, hown', hgrow⟩ := own_num hout hszr (by omega) L[k] 87
        have hB1 := below_grown hBr hout hgrow hszr
        rw [hmn] at hown'
        have H0 : Hid _ := hrun
        have HO : Hid _ := hown'
        have HB1 : Hid _ := hB1
        have hq : ((k : Int) == (L.length : Int)) = false := by simp; omega
        have hq2 : (k : Int) < (L.length : Int) := by omega
        clear hrun hown' hB1 hmn hmo hc hx hout
        generalize L[k] = z at *
        go_wp2
        go_loopw [10, 12] (fun out j wr' => out = u10 ∧ j = .int .i64 (L.length : Int) ∧ wr' = wr) (fun _ j _ => 0)
        case atStart => exact ⟨rfl, rfl, rfl⟩
        case round =>
          obtain ⟨rfl, rfl, rfl⟩ := hrel
          go_wp2_with (at_builtin; refine wpList_append_run rfl _ _ _ _ rfl rfl rfl H0.out ?_; clear H0)
          exact ⟨⟨k + 1, by omega, by simp, HO.out, HB1.out⟩, by simp [intOf]; omega⟩
    · obtain rfl : k = L.length + 1 := by omega
      have ho := outK_all L L.length (Nat.le_refl _)
      rw [List.take_of_length_le (Nat.le_refl _), List.drop_length, List.append_nil] at ho
      rw [ho] at hout
      have HO : Hid _ := hout
      clear hout ho
      go_wp2
      rw [← HQ.out]
      exact ⟨_, rfl, row_base HO.out (by omega), hB3.trans (hBr.mono (by omega))⟩

end Go.Proofs.YtlpbffcijhgelaaDoor

namespace Go.Proofs.YtlpbffcijhgelaaDoor
open Go Go.RowKit
set_option linter.unusedVariables false

theorem Awake.on {W : World} (tb : Tabs W ∧ Tz W) (w' : World) (hb : Below W.heap.size W w') : Calls Tryd.prog 17 #[] w' fun e w'' => e = .returned (.bool true) ∧ Below w'.heap.size w' w'' :=
  awake_calls w' ⟨Tabs.on tb.1 hb, Tz.on tb.2 hb⟩

end Go.Proofs.YtlpbffcijhgelaaDoor
