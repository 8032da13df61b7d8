/-
  The document's Whole6, where nothing stands behind the last colon.
  The walk of the document's Whole6, where nothing stands behind the last colon.
  The document's Parse6, where nothing stands behind the last colon.
  The document's slash, length; its prefixes of good texts.
  The document's Parse6, of any text.
  awake answers true in every world above one that holds the tables.
-/
import Derived.Test.YtlpbffcijhgelaaDoorQa7
import Derived.Laws.OwnMore
import Derived.Test.YtlpbffcijhgelaaDoorFold01
import Derived.Deep.RegionLaw
import Derived.Test.YtlpbffcijhgelaaDoorFold02
namespace Go.Proofs.YtlpbffcijhgelaaDoor
set_option linter.unusedVariables false
set_option linter.unusedSimpArgs false
open Go Go.RowKit

/-- The groups behind k rounds. -/
def outK (l : List Int) (g k : Nat) : List Int := if k ≤ g then l.take k else l.take g ++ List.replicate (8 - l.length) 0 ++ (l.drop g).take (k - g)

/-- Behind the inner loop of round k. -/
def midK (l : List Int) (g k : Nat) : List Int := if k = g then l.take g ++ List.replicate (8 - l.length) 0 else outK l g k

theorem midK_next (l : List Int) (g k : Nat) (x : Int) (hg : g ≤ l.length) (h : l[k]? = some x) : midK l g k ++ [x] = outK l g (k + 1) := by
  obtain ⟨hk, rfl⟩ := List.getElem?_eq_some_iff.1 h
  unfold midK outK
  by_cases c : k = g
  · subst c
    rw [if_pos rfl, if_neg (by omega), Nat.add_sub_cancel_left]
    congr 1
    rw [List.drop_eq_getElem_cons hk]
    rfl
  · rw [if_neg c]
    by_cases d : k ≤ g
    · rw [if_pos d, if_pos (by omega), List.take_succ_eq_append_getElem hk]
    · rw [if_neg d, if_neg (by omega), List.append_assoc]
      congr 1
      have e : k + 1 - g = (k - g) + 1 := by omega
      have hl : k - g < (l.drop g).length := by rw [List.length_drop]; omega
      rw [e, List.take_succ_eq_append_getElem hl]
      congr 2
      rw [List.getElem_drop]
      congr 1
      omega
theorem midK_last (l : List Int) (g : Nat) (hg : g ≤ l.length) : midK l g l.length = outK l g (l.length + 1) := by
  unfold midK outK
  by_cases c : l.length = g
  · rw [if_pos c, if_neg (by omega), ← c, List.drop_length]
    simp
  · rw [if_neg c, if_neg (by omega), if_neg (by omega), List.take_of_length_le (l := l.drop g) (i := l.length - g) (by rw [List.length_drop]; omega), List.take_of_length_le (l := l.drop g) (i := l.length + 1 - g) (by rw [List.length_drop]; omega)]
theorem outK_len (l : List Int) (g k : Nat) (h7 : l.length ≤ 7) : (outK l g k).length ≤ 30 ∧ (midK l g k).length ≤ 30 := by
  have h1 : (outK l g k).length ≤ 30 := by
    unfold outK
    split <;> simp <;> omega
  refine ⟨h1, ?_⟩
  unfold midK
  split
  · simp; omega
  · exact h1
theorem outK_all (l : List Int) (g : Nat) (hg : g ≤ l.length) : outK l g (l.length + 1) = l.take g ++ List.replicate (8 - l.length) 0 ++ l.drop g := by
  unfold outK
  rw [if_neg (by omega), List.take_of_length_le (l := l.drop g) (by rw [List.length_drop]; omega)]

/-- One number more. -/
theorem own_num {w : World} {base : Nat} {v : Value} {xs : List Int} (h : w.ownsRow base 3 1 v xs.length (intsL xs)) (hb : base ≤ w.heap.size) (hn : xs.length ≤ 1000) (z : Int) (ty : TypeId) :
    ∃ v' w1, (Builtin.append_ #[87, 87] ty #[v, .slice (some ⟨w.heap.size, 0, none⟩) 1 1]).run Tryd.prog (w.alloc (.cells #[.int .i64 z] 3)) = .ok v' w1 ∧ w1.ownsRow base 3 1 v' (xs ++ [z]).length (intsL (xs ++ [z])) ∧ w.grownBy w1 v.ownBlock := by
  obtain ⟨v', w1, hrun, hown', hgrow, _⟩ := own_lit elem_int h hb (by omega) (by decide) [.int .i64 z] 1 rfl (by decide) (fun u hu => by simp at hu; subst hu; rfl) ty #[.int .i64 z] rfl
  have e : intsL xs ++ [.int .i64 z] = intsL (xs ++ [z]) := by simp [intsL]
  have e2 : xs.length + 1 = (xs ++ [z]).length := by simp
  rw [e, e2] at hown'
  exact ⟨v', w1, hrun, hown', hgrow⟩

theorem below_grown {B : Nat} {u w w1 : World} {v : Value} {n : Nat} {xs : List Value} {e : TypeId} (hB : Below B u w) (hown : w.ownsRow B e 1 v n xs) (hg : w.grownBy w1 v.ownBlock) (hb : B ≤ w.heap.size) : Below B u w1 :=
  hB.grown hg hb (fun j hj => (hown.lt j hj).1)

end Go.Proofs.YtlpbffcijhgelaaDoor

namespace Go.Proofs.YtlpbffcijhgelaaDoor
set_option linter.unusedVariables false
set_option linter.unusedSimpArgs false
open Go Go.RowKit

def Whole6Post (l : List Int) (ok : Bool) (w : World) (e : Ending) (w' : World) : Prop :=
  ∃ v, e = .returned (.tuple #[v, .bool ok]) ∧ w'.ownsRow w.heap.size 3 1 v l.length (intsL l) ∧ Below w.heap.size w w'

theorem row_base {w : World} {base base' n : Nat} {e : TypeId} {v : Value} {xs : List Value} (h : w.ownsRow base e 1 v n xs) (hb : base' ≤ base) : w.ownsRow base' e 1 v n xs :=
  ⟨h.1, h.2.imp id (fun ⟨g, cap, cur, hv, hg, r⟩ => ⟨g, cap, cur, hv, Nat.le_trans hb hg, r⟩)⟩

set_option maxHeartbeats 4000000 in
set_option maxRecDepth 100000 in
theorem Whole6_empty (s : ByteArray) (v : Value) (L : List Int) (base : Nat) (w : World) (hown : w.ownsRow base 3 1 v L.length (intsL L)) (h7 : L.length ≤ 7) :
    Calls Tryd.prog 58 #[.string s, .agg (sixL v (L.length : Int) ⟨#[]⟩).toArray] w fun e w' => Whole6Post (L ++ List.replicate (8 - L.length) 0) true w e w' := by
  generalize hQ : (fun e w' => Whole6Post (L ++ List.replicate (8 - L.length) 0) true w e w') = Q
  have HQ : Hid _ := hQ
  clear hQ
  obtain ⟨a, cap, rfl, hlen, hz⟩ := own_form hown
  have hbx := blk_new w (.cells (sixL (.slice a L.length cap) (L.length : Int) ⟨#[]⟩).toArray 89)
  have hB0 := (Below.refl w.heap.size w).alloc (Nat.le_refl _) (.cells (sixL (.slice a L.length cap) (L.length : Int) ⟨#[]⟩).toArray 89)
  have hz0 : (w.alloc (.cells (sixL (.slice a L.length cap) (L.length : Int) ⟨#[]⟩).toArray 89)).heap.size = w.heap.size + 1 := by simp
  have hgr := fun W => group_ref ⟨#[]⟩ W (by decide)
  have eg : grpB (txt ⟨#[]⟩) = false := rfl
  rw [eg] at hgr
  have HG : Hid _ := hgr
  clear hgr eg
  go_enter Tryd.func58, Tryd.ntmps58
  generalize hW0 : w.alloc (.cells (sixL (.slice a L.length cap) (L.length : Int) ⟨#[]⟩).toArray 89) = W0 at *
  have hbxA : ∀ y : Hi W0, y.W.heap[w.heap.size]? = _ := fun y => Hi.blk hbx y
  have hown1 := World.ownsRow_lit (base := W0.heap.size) (e := 3) (size := 1) W0 #[] 0 (Nat.le_refl _) (by decide) rfl
  have hcL : ∀ (x : Addr), a = some x → ∀ (j : Nat) u, (intsL L)[j]? = some u → (W0.alloc (.cells #[] 3)).cell? (x.add j) = some u := by
    intro x hx j u hj
    rcases hz with hz | ⟨g, hg, _, hgl, hc⟩
    · rw [List.length_eq_zero_iff.1 hz] at hj
      simp [intsL] at hj
    · rw [hx] at hg
      cases hg
      rw [Go.WideShapes.add_plain]
      have e1 := hc j u hj
      have hb1 : Below W0.heap.size W0 (W0.alloc (.cells #[] 3)) := (Below.refl _ W0).alloc (Nat.le_refl _) _
      rw [Nat.zero_add]
      exact (hb1.cell (p := ⟨g, j, none⟩) (Nat.lt_of_lt_of_le hgl hB0.size)).trans ((hB0.cell (p := ⟨g, j, none⟩) hgl).trans e1)
  obtain ⟨v2, W2, hrun, hown2, hgrow, _⟩ := own_append elem_int (c := cap) (m := L.length) hown1 a (intsL L) (by simp [intsL]) (fun h => by
      rcases hz with hz | ⟨g, hg, _⟩
      · exact hz
      · rw [h] at hg; cases hg) hcL (fun u hu => by obtain ⟨z, _, rfl⟩ := List.mem_map.1 hu; rfl) (by unfold maxLen; omega) (by omega) (by simp) 87
  simp only [Array.toList_empty, List.nil_append, Nat.zero_add] at hown2
  obtain ⟨a2, cap2, rfl, _, hz2⟩ := own_form hown2
  have hB2 : Below W0.heap.size W0 W2 := ((Below.refl _ W0).alloc (Nat.le_refl _) _).grown hgrow (by simp) (fun k hk => (hown1.lt k hk).1)
  have hbx2 : ∀ y : Hi W2, y.W.heap[w.heap.size]? = some (.cells (sixL (.slice a L.length cap) (L.length : Int) ⟨#[]⟩).toArray 89) := fun y => Hi.blk ((hB2.block _ (by omega)).trans hbx) y
  have hc0 : ∀ y : Hi W2, y.W.cell? ⟨w.heap.size, 0, none⟩ = some (.slice a L.length cap) := fun y => blk_cell (hbx2 y) rfl
  have hc1 : ∀ y : Hi W2, y.W.cell? ⟨w.heap.size, 1, none⟩ = some (.int .i64 (L.length : Int)) := fun y => blk_cell (hbx2 y) rfl
  have hc2 : ∀ y : Hi W2, y.W.cell? ⟨w.heap.size, 2, none⟩ = some (.string ⟨#[]⟩) := fun y => blk_cell (hbx2 y) rfl
  have H0 : Hid _ := hrun
  have d0 : (W0.alloc (.cells #[] 3)).cell? ⟨w.heap.size, 0, none⟩ = some (.slice a L.length cap) := blk_cell (blk_alloc hbx _) rfl
  have e2 := hc2 (Hi.refl W2)
  have e1 := hc1 (Hi.refl W2)
  have e0 := hc0 (Hi.refl W2)
  simp only [Hi.refl] at e0 e1 e2
  have hB3 : Below w.heap.size w W2 := hB0.trans (hB2.mono (by omega))
  have hsz2 : w.heap.size + 1 ≤ W2.heap.size := by have := hB2.size; omega
  have HZ0 : Hid _ := hz0
  clear hrun hown1 hgrow hcL hbxA hz0
  go_wp2_with (at_builtin; refine wpList_append_run rfl _ _ _ _ rfl rfl rfl H0.out ?_; clear H0)
  refine (HG.out W2).mono ?_
  rintro e W3 ⟨rfl, rfl⟩
  have q0 : ((L.length : Int) == (L.length : Int)) = true := by simp
  have hl7 : ((L.length : Nat) : Int) ≤ 7 := by omega
  go_wp2
  go_loopw [10, 11] (fun out i wr => ∃ k : Nat, k ≤ L.length + 1 ∧ i = .int .i64 k ∧ wr.ownsRow W3.heap.size 3 1 out (outK L L.length k).length (intsL (outK L L.length k)) ∧ Below W3.heap.size W3 wr) (fun _ i _ => L.length + 1 - (intOf i).toNat)
  case atStart => exact ⟨0, Nat.zero_le _, rfl, World.ownsRow_nil _ _ _ _, Below.refl _ _⟩
  case round =>
    obtain ⟨k, hk, rfl, hout, hBr⟩ := hrel
    have hszr := hBr.size
    by_cases hlt : k ≤ L.length
    · have hmk := outK_len L L.length k h7
      by_cases hkn : k = L.length
      · subst hkn
        have hst : outK L L.length L.length = L := by
          unfold outK
          rw [if_pos (Nat.le_refl _), List.take_of_length_le (Nat.le_refl _)]
        rw [hst] at hout
        have HO : Hid _ := hout
        clear hout
        go_wp2
        go_loopw [10, 12] (fun out j wr => ∃ m : Nat, m ≤ 8 - L.length ∧ j = .int .i64 (L.length + m : Nat) ∧ wr.ownsRow W3.heap.size 3 1 out (L ++ List.replicate m 0).length (intsL (L ++ List.replicate m 0)) ∧ Below W3.heap.size W3 wr) (fun _ j _ => 8 - (intOf j).toNat)
        case atStart => exact ⟨0, Nat.zero_le _, rfl, by rw [List.replicate_zero, List.append_nil]; exact HO.out, hBr⟩
        case round =>
          clear HO
          obtain ⟨m, hm, rfl, hou, hBq⟩ := hrel
          have hszq := hBq.size
          by_cases hm8 : L.length + m < 8
          · obtain ⟨v', w1, hrun, hown', hgrow⟩ := own_num hou hszq (by simp; omega) 0 87
            have hB1 := below_grown hBq hou hgrow hszq
            have e : L ++ List.replicate m 0 ++ [0] = L ++ List.replicate (m + 1) 0 := by rw [List.append_assoc, List.replicate_succ']
            rw [e] at hown'
            have H0 : Hid _ := hrun
            have HO : Hid _ := hown'
            have HB1 : Hid _ := hB1
            have f1 := (Hi.mk wr (hBq)).below.cell (p := ⟨w.heap.size, 1, none⟩) (by show w.heap.size < W3.heap.size; omega)
            have f2 : wr.cell? ⟨w.heap.size, 1, none⟩ = some (.int .i64 (L.length : Int)) := f1.trans e1
            have hq : ((L.length + m : Nat) : Int) < 8 := by omega
            clear hrun hown' hB1 hou e f1
            go_wp2_with (at_builtin; refine wpList_append_run rfl _ _ _ _ rfl rfl rfl H0.out ?_; clear H0)
            exact ⟨⟨m + 1, by omega, by simp; omega, HO.out, HB1.out⟩, by simp [intOf]; omega⟩
          · obtain rfl : m = 8 - L.length := by omega
            have f1 := (Hi.mk wr (hBq)).below.cell (p := ⟨w.heap.size, 1, none⟩) (by show w.heap.size < W3.heap.size; omega)
            have f2 : wr.cell? ⟨w.heap.size, 1, none⟩ = some (.int .i64 (L.length : Int)) := f1.trans e1
            have hq : ¬ ((L.length + (8 - L.length) : Nat) : Int) < 8 := by omega
            have ho := outK_all L L.length (Nat.le_refl _)
            rw [List.take_of_length_le (Nat.le_refl _), List.drop_length, List.append_nil] at ho
            have HO : Hid _ := hou
            have HE : Hid _ := ho
            clear hou f1 ho
            go_wp2
            exact ⟨⟨L.length + 1, by omega, by simp, by rw [HE.out]; exact HO.out, hBq⟩, by simp [intOf]⟩
      · have hkl : k < L.length := by omega
        have hx : L[k]? = some L[k] := by simp [hkl]
        have hmn := midK_next L L.length k _ (Nat.le_refl _) hx
        have hmo : midK L L.length k = outK L L.length k := by unfold midK; rw [if_neg hkn]
        rw [hmo] at hmn
        rcases hz2 with hz2 | ⟨g, rfl, hgb, hgl, hc⟩
        · omega
        have hck := (hBr.cell (p := ⟨g, k, none⟩) hgl).trans (hc k (.int .i64 L[k]) (by rw [intsL, List.getElem?_map, hx]; rfl))
        have f1 := (hBr.cell (p := ⟨w.heap.size, 1, none⟩) (by show w.heap.size < W3.heap.size; omega)).trans e1
        obtain ⟨v', w1, hrun, hown', hgrow⟩ := own_num hout hszr (by omega) L[k] 87
        have hB1 := below_grown hBr hout hgrow hszr
        rw [hmn] at hown'
        have H0 : Hid _ := hrun
        have HO : Hid _ := hown'
        have HB1 : Hid _ := hB1
        have hq : ((k : Int) == (L.length : Int)) = false := by simp; omega
        have hq2 : (k : Int) < (L.length : Int) := by omega
        clear hrun hown' hB1 hmn hmo hc hx hout
        generalize L[k] = z at *
        go_wp2
        go_loopw [10, 12] (fun out j wr' => out = u10 ∧ j = .int .i64 (L.length : Int) ∧ wr' = wr) (fun _ j _ => 0)
        case atStart => exact ⟨rfl, rfl, rfl⟩
        case round =>
          obtain ⟨rfl, rfl, rfl⟩ := hrel
          go_wp2_with (at_builtin; refine wpList_append_run rfl _ _ _ _ rfl rfl rfl H0.out ?_; clear H0)
          exact ⟨⟨k + 1, by omega, by simp, HO.out, HB1.out⟩, by simp [intOf]; omega⟩
    · obtain rfl : k = L.length + 1 := by omega
      have ho := outK_all L L.length (Nat.le_refl _)
      rw [List.take_of_length_le (Nat.le_refl _), List.drop_length, List.append_nil] at ho
      rw [ho] at hout
      have HO : Hid _ := hout
      clear hout ho
      go_wp2
      rw [← HQ.out]
      exact ⟨_, rfl, row_base HO.out (by omega), hB3.trans (hBr.mono (by omega))⟩

end Go.Proofs.YtlpbffcijhgelaaDoor

namespace Go.Proofs.YtlpbffcijhgelaaDoor
set_option linter.unusedVariables false
set_option linter.unusedSimpArgs false
open Go Go.RowKit

abbrev zero16 : List Int := [0, 0, 0, 0, 0, 0, 0, 0, 0, 0, 0, 0, 0, 0, 0, 0]

abbrev zero16V : List Value := [.int .u8 0, .int .u8 0, .int .u8 0, .int .u8 0, .int .u8 0, .int .u8 0, .int .u8 0, .int .u8 0, .int .u8 0, .int .u8 0, .int .u8 0, .int .u8 0, .int .u8 0, .int .u8 0, .int .u8 0, .int .u8 0]
theorem zero16V_one : ∀ v ∈ zero16V, v.oneCell' = true := b8_one zero16

def byK (g : List Int) (k : Nat) : List Int := ((g.take k).map (fun z => [z / 256, z % 256])).flatten ++ List.replicate (16 - 2 * k) 0

theorem list8 {l : List Int} (h : l.length = 8) : ∃ a b c d e f g i, l = [a, b, c, d, e, f, g, i] := by
  match l, h with
  | [a, b, c, d, e, f, g, i], _ => exact ⟨a, b, c, d, e, f, g, i, rfl⟩

/-- An IPv6 address that a parser answers, the place of its fault, and its error. -/
def Par6 (r : List Int × Int × Int) : Value := .tuple #[.agg (b8 r.1).toArray, .int .i64 r.2.1, .int .i64 r.2.2]

def Par6Post (r : List Int × Int × Int) (w : World) (e : Ending) (w' : World) : Prop := e = .returned (Par6 r) ∧ Below w.heap.size w w'

set_option maxHeartbeats 4000000 in
set_option maxRecDepth 100000 in
theorem Parse6_gap (s : ByteArray) (L : List Int) (w : World) (hrd : ∀ W, Calls Tryd.prog 57 #[.string s] W fun e w' => Read6Post s W e w') (hL : read6 (txt s) s.size 0 ⟨[], -1, []⟩ = (⟨L, (L.length : Int), []⟩, s.size)) (h7 : L.length ≤ 7) (hz : ∀ z ∈ L, 0 ≤ z ∧ z < 65536) :
    Calls Tryd.prog 19 #[.string s] w fun e w' => Par6Post (byK (L ++ List.replicate (8 - L.length) 0) 8, 0, 0) w e w' := by
  generalize hQ : (fun e w' => Par6Post (byK (L ++ List.replicate (8 - L.length) 0) 8, 0, 0) w e w') = Q
  have HQ : Hid _ := hQ
  clear hQ
  have hb0 := blk_new w (.cells zero16V.toArray 31)
  have hB0 := (Below.refl w.heap.size w).alloc (Nat.le_refl _) (.cells zero16V.toArray 31)
  have hz0 : (w.alloc (.cells zero16V.toArray 31)).heap.size = w.heap.size + 1 := by simp
  have HZ0 : Hid _ := hz0
  have HRD : Hid _ := hrd
  clear hrd hz0
  go_enter Tryd.func19, Tryd.ntmps19
  go_wp2_with fail
  generalize hW : w.alloc (.cells zero16V.toArray 31) = W0 at *
  clear hW
  refine (HRD.out W0).mono ?_
  rintro e w1 ⟨v, p, rfl, hrow, hp, hB1⟩
  rw [hL] at hrow hp ⊢
  simp only at hrow hp ⊢
  have hpe : p = ⟨#[]⟩ := by
    have h0 := (txt_empty p).1 hp
    cases p with
    | mk d => simp only [ByteArray.size] at h0; simp [Array.size_eq_zero_iff.1 h0]
  subst hpe
  have hz0 := HZ0.out
  have hb1 := (hB1.block _ (by omega)).trans hb0
  have hBw1 := hB0.trans (hB1.mono (by omega))
  obtain ⟨a, cap, rfl, _⟩ := own_form hrow
  obtain ⟨w2, hst, bx2, hB2⟩ := box_new Tryd.sizeOf89 w1 (sixL (.slice none 0 0) 0 ⟨#[]⟩) rfl (sixL (.slice a L.length cap) (L.length : Int) ⟨#[]⟩) rfl (by simp [sixL, Value.oneCell'])
  have hrow2 := row_kept hrow (fun g _ hg => hB2.block g hg)
  have hwh := Whole6_empty s _ L _ w2 hrow2 h7
  have hb2 := (hB2.block _ (Nat.lt_of_lt_of_le (by omega) hB1.size)).trans hb1
  have hBw2 := hBw1.trans (hB2.mono hBw1.size)
  have HST : Hid _ := hst
  have HL6 : Hid _ := agg_load (t := 89) Tryd.isAgg89 Tryd.sizeOf89 rfl (CellsAt.of_blk bx2)
  have HWH : Hid _ := hwh
  have hlt2 : w.heap.size < w2.heap.size := Nat.lt_of_lt_of_le (by omega) (Nat.le_trans hB1.size hB2.size)
  clear hst hwh hrow hrow2 hp hb0 hB0 hz0 HZ0 HRD hb1 hBw1
  go_wp2_with first
    | ((with_reducible show wpList _ _ _ _ _ _); refine armS (.tmp 5) (.tmp 14) 89 rfl rfl rfl rfl HST.out ?_)
    | ((with_reducible show wpList _ _ _ _ _ _); refine armL (.tmp 5) 89 rfl rfl rfl HL6.out ?_)
  refine Calls.mono HWH.out ?_
  rintro e w3 ⟨v3, rfl, hrow3, hB3⟩
  have hb3 := (hB3.block _ hlt2).trans hb2
  have hBw3 := hBw2.trans (hB3.mono hBw2.size)
  generalize hG : L ++ List.replicate (8 - L.length) 0 = G at *
  have hG8 : G.length = 8 := by rw [← hG]; simp; omega
  have hGz : ∀ z ∈ G, 0 ≤ z ∧ z < 65536 := by
    intro z hh
    rw [← hG] at hh
    rcases List.mem_append.1 hh with hh | hh
    · exact hz z hh
    · have := List.eq_of_mem_replicate hh
      subst this
      decide
  clear hG
  obtain ⟨a3, cap3, rfl, _, hz3⟩ := own_form hrow3
  rw [hG8] at hz3
  rcases hz3 with hz3 | ⟨g, rfl, _, hg, hc⟩
  · omega
  obtain ⟨w4, hst4, b4, hB4⟩ := box_new Tryd.sizeOf31 w3 zero16V rfl zero16V rfl zero16V_one
  have HST4 : Hid _ := hst4
  have hb4 := (hB4.block _ (Nat.lt_of_lt_of_le hlt2 hB3.size)).trans hb3
  have hBw4 := hBw3.trans (hB4.mono hBw3.size)
  have hc4 : ∀ (j : Nat) u, (intsL G)[j]? = some u → w4.cell? ⟨g, j, none⟩ = some u := fun j u hj => (hB4.cell (p := ⟨g, j, none⟩) hg).trans (hc j u hj)
  have hlt3 : w.heap.size < w3.heap.size := Nat.lt_of_lt_of_le hlt2 hB3.size
  clear hst4 hrow3 hb2 hb3 hc hB3 hBw2 HWH HST HL6 bx2 hB2 hlt2
  rw [hG8]
  go_wp2_with ((with_reducible show wpList _ _ _ _ _ _); refine armS (.tmp 9) (.tmp 32) 31 rfl rfl rfl rfl HST4.out ?_)
  go_loopw [10] (fun i wr => ∃ k : Nat, k ≤ 8 ∧ i = .int .i64 k ∧ wr.heap[w3.heap.size]? = some (.cells (b8 (byK G k)).toArray 31) ∧ Only w3.heap.size w4 wr) (fun i _ => 8 - (intOf i).toNat)
  case atStart => exact ⟨0, Nat.zero_le _, rfl, b4, Only.refl _ _⟩
  case round =>
    obtain ⟨k, hk, rfl, hbk, hon⟩ := hrel
    by_cases hlt : k < 8
    · obtain ⟨z0, z1, z2, z3, z4, z5, z6, z7, rfl⟩ := list8 hG8
      have ff := blk_open hbk
      have hkk : k = 0 ∨ k = 1 ∨ k = 2 ∨ k = 3 ∨ k = 4 ∨ k = 5 ∨ k = 6 ∨ k = 7 := by omega
      have hcr : ∀ (j : Nat) u, (intsL [z0, z1, z2, z3, z4, z5, z6, z7])[j]? = some u → wr.cell? ⟨g, j, none⟩ = some u := fun j u hj => ((hon.below (B := w3.heap.size) (Nat.le_refl _)).cell (p := ⟨g, j, none⟩) hg).trans (hc4 j u hj)
      clear hc4 hG8 HQ
      rcases hkk with rfl | rfl | rfl | rfl | rfl | rfl | rfl | rfl
      · have hzk := hGz z0 (by simp)
        have r1 := hcr 0 _ rfl
        have r2 := blk_cell hbk (j := 0) rfl
        have r3 := blk_cell hbk (j := 1) rfl
        have HS : Hid _ := blk_set (blk_set hbk 0 (.int .u8 (z0 / 256))) 1 (.int .u8 (z0 % 256))
        have HO : Hid _ := ((hon.set 0 (.int .u8 (z0 / 256))).set 1 (.int .u8 (z0 % 256))).drew
        clear hcr hGz hk hlt
        go_wp2_with fail
        go_region
        go_wp2
        exact ⟨⟨1, by decide, by simp, HS.out, HO.out⟩, by simp [intOf]⟩
      · have hzk := hGz z1 (by simp)
        have r1 := hcr 1 _ rfl
        have r2 := blk_cell hbk (j := 2) rfl
        have r3 := blk_cell hbk (j := 3) rfl
        have HS : Hid _ := blk_set (blk_set hbk 2 (.int .u8 (z1 / 256))) 3 (.int .u8 (z1 % 256))
        have HO : Hid _ := ((hon.set 2 (.int .u8 (z1 / 256))).set 3 (.int .u8 (z1 % 256))).drew
        clear hcr hGz hk hlt
        go_wp2_with fail
        go_region
        go_wp2
        exact ⟨⟨2, by decide, by simp, HS.out, HO.out⟩, by simp [intOf]⟩
      · have hzk := hGz z2 (by simp)
        have r1 := hcr 2 _ rfl
        have r2 := blk_cell hbk (j := 4) rfl
        have r3 := blk_cell hbk (j := 5) rfl
        have HS : Hid _ := blk_set (blk_set hbk 4 (.int .u8 (z2 / 256))) 5 (.int .u8 (z2 % 256))
        have HO : Hid _ := ((hon.set 4 (.int .u8 (z2 / 256))).set 5 (.int .u8 (z2 % 256))).drew
        clear hcr hGz hk hlt
        go_wp2_with fail
        go_region
        go_wp2
        exact ⟨⟨3, by decide, by simp, HS.out, HO.out⟩, by simp [intOf]⟩
      · have hzk := hGz z3 (by simp)
        have r1 := hcr 3 _ rfl
        have r2 := blk_cell hbk (j := 6) rfl
        have r3 := blk_cell hbk (j := 7) rfl
        have HS : Hid _ := blk_set (blk_set hbk 6 (.int .u8 (z3 / 256))) 7 (.int .u8 (z3 % 256))
        have HO : Hid _ := ((hon.set 6 (.int .u8 (z3 / 256))).set 7 (.int .u8 (z3 % 256))).drew
        clear hcr hGz hk hlt
        go_wp2_with fail
        go_region
        go_wp2
        exact ⟨⟨4, by decide, by simp, HS.out, HO.out⟩, by simp [intOf]⟩
      · have hzk := hGz z4 (by simp)
        have r1 := hcr 4 _ rfl
        have r2 := blk_cell hbk (j := 8) rfl
        have r3 := blk_cell hbk (j := 9) rfl
        have HS : Hid _ := blk_set (blk_set hbk 8 (.int .u8 (z4 / 256))) 9 (.int .u8 (z4 % 256))
        have HO : Hid _ := ((hon.set 8 (.int .u8 (z4 / 256))).set 9 (.int .u8 (z4 % 256))).drew
        clear hcr hGz hk hlt
        go_wp2_with fail
        go_region
        go_wp2
        exact ⟨⟨5, by decide, by simp, HS.out, HO.out⟩, by simp [intOf]⟩
      · have hzk := hGz z5 (by simp)
        have r1 := hcr 5 _ rfl
        have r2 := blk_cell hbk (j := 10) rfl
        have r3 := blk_cell hbk (j := 11) rfl
        have HS : Hid _ := blk_set (blk_set hbk 10 (.int .u8 (z5 / 256))) 11 (.int .u8 (z5 % 256))
        have HO : Hid _ := ((hon.set 10 (.int .u8 (z5 / 256))).set 11 (.int .u8 (z5 % 256))).drew
        clear hcr hGz hk hlt
        go_wp2_with fail
        go_region
        go_wp2
        exact ⟨⟨6, by decide, by simp, HS.out, HO.out⟩, by simp [intOf]⟩
      · have hzk := hGz z6 (by simp)
        have r1 := hcr 6 _ rfl
        have r2 := blk_cell hbk (j := 12) rfl
        have r3 := blk_cell hbk (j := 13) rfl
        have HS : Hid _ := blk_set (blk_set hbk 12 (.int .u8 (z6 / 256))) 13 (.int .u8 (z6 % 256))
        have HO : Hid _ := ((hon.set 12 (.int .u8 (z6 / 256))).set 13 (.int .u8 (z6 % 256))).drew
        clear hcr hGz hk hlt
        go_wp2_with fail
        go_region
        go_wp2
        exact ⟨⟨7, by decide, by simp, HS.out, HO.out⟩, by simp [intOf]⟩
      · have hzk := hGz z7 (by simp)
        have r1 := hcr 7 _ rfl
        have r2 := blk_cell hbk (j := 14) rfl
        have r3 := blk_cell hbk (j := 15) rfl
        have HS : Hid _ := blk_set (blk_set hbk 14 (.int .u8 (z7 / 256))) 15 (.int .u8 (z7 % 256))
        have HO : Hid _ := ((hon.set 14 (.int .u8 (z7 / 256))).set 15 (.int .u8 (z7 % 256))).drew
        clear hcr hGz hk hlt
        go_wp2_with fail
        go_region
        go_wp2
        exact ⟨⟨8, by decide, by simp, HS.out, HO.out⟩, by simp [intOf]⟩
    · obtain rfl : k = 8 := by omega
      have hlb : (b8 (byK G 8)).length = 16 := by
        obtain ⟨z0, z1, z2, z3, z4, z5, z6, z7, rfl⟩ := list8 hG8
        rfl
      have hbR := ((hon.below (B := w3.heap.size) (Nat.le_refl _)).block _ hlt3).trans hb4
      have hBR : Below w.heap.size w wr := hBw4.trans (hon.below (by omega))
      have hL := agg_load (t := 31) Tryd.isAgg31 Tryd.sizeOf31 hlb (CellsAt.of_blk hbk)
      obtain ⟨wE, hst, bE, honE⟩ := box_store Tryd.sizeOf31 hbR rfl (b8 (byK G 8)) hlb (b8_one _)
      have hlv := agg_loadVar (t := 31) Tryd.isAgg31 Tryd.sizeOf31 hlb (CellsAt.of_blk bE)
      have HBE : Hid (Below w.heap.size w wE) := hBR.trans (honE.below (Nat.le_refl _))
      have HL : Hid _ := hL
      have HSQ : Hid _ := hst
      have HLV : Hid _ := hlv
      clear hL hst hlv bE honE hbR hBR hbk hon
      go_wp2_with first
        | ((with_reducible show wpList _ _ _ _ _ _); refine armL (.tmp 9) 31 rfl rfl rfl HL.out ?_)
        | ((with_reducible show wpList _ _ _ _ _ _); refine armS (.tmp 2) (.tmp 56) 31 rfl rfl rfl rfl HSQ.out ?_)
      refine bodyPost_ret (res3c Tryd.results19 rfl HLV.out) rfl ?_
      rw [← HQ.out]
      exact ⟨rfl, HBE.out⟩

end Go.Proofs.YtlpbffcijhgelaaDoor

namespace Go.Proofs.YtlpbffcijhgelaaDoor
set_option linter.unusedVariables false
set_option linter.unusedSimpArgs false
open Go Go.RowKit

theorem step_storeR {P : Program} {ops : Array Oper} {o : Oper} {a : Act} {w w2 : World} {K : Act → World → Prop} {Q : Exit → Act → World → Prop} {E : Prop} (hg : o.guard = none) (p x : Operand) (t : TypeId)
    (hop : o.op = Op.store t p x) {vp vx : Value} (hp : a.eval p = vp) (hx : a.eval x = vx) (hrun : (Instr.storeAt t vp vx).run P w = .ok () w2) (hK : K (a.put o.dst (.tuple #[])) w2) :
    if Region.wanted o (yielded ops a.tmps) = true then Oper.wp P o a w K Q else E := by
  have hw : Region.wanted o (yielded ops a.tmps) = true := by simp [Region.wanted, hg]
  rw [if_pos hw]
  unfold Oper.wp
  simp [execOp, hop, hp, hx, hrun, Result.andThen]
  exact hK

theorem step_loadR {P : Program} {ops : Array Oper} {o : Oper} {a : Act} {w : World} {K : Act → World → Prop} {Q : Exit → Act → World → Prop} {E : Prop} (hg : o.guard = none) (p : Operand) (t : TypeId)
    (hop : o.op = Op.load t p) {vp v : Value} (hp : a.eval p = vp) (hrun : (Instr.loadAt t vp).run P w = .ok v w) (hK : K (a.put o.dst v) w) :
    if Region.wanted o (yielded ops a.tmps) = true then Oper.wp P o a w K Q else E := by
  have hw : Region.wanted o (yielded ops a.tmps) = true := by simp [Region.wanted, hg]
  rw [if_pos hw]
  unfold Oper.wp
  simp [execOp, hop, hp, hrun, Result.andThen]
  exact hK
theorem step_buildR {P : Program} {ops : Array Oper} {o : Oper} {a : Act} {w : World} {K : Act → World → Prop} {Q : Exit → Act → World → Prop} {E : Prop} (hg : o.guard = none) (t : TypeId) (ps : List (Nat × Operand))
    (hop : o.op = Op.build t ps.toArray) {vs : List (Nat × Value)} (hv : ps.map (fun p => (p.1, a.eval p.2)) = vs) {v : Value} (hrun : (Instr.build t vs.toArray).run P w = .ok v w) (hK : K (a.put o.dst v) w) :
    if Region.wanted o (yielded ops a.tmps) = true then Oper.wp P o a w K Q else E := by
  have hw : Region.wanted o (yielded ops a.tmps) = true := by simp [Region.wanted, hg]
  rw [if_pos hw]
  unfold Oper.wp
  have e : (ps.toArray.map fun (i, x) => (i, a.eval x)) = vs.toArray := by
    rw [← hv]
    simp
  simp only [execOp, hop]
  rw [e]
  simp [hrun, Result.andThen]
  exact hK

set_option maxHeartbeats 1000000 in
theorem slash_ref (s : ByteArray) (w : World) (hs : s.size ≤ 140737488355328) : Calls Tryd.prog 65 #[.string s] w fun e w' => e = .returned (.int .i64 (slashN (txt s) s.size 0 : Nat)) ∧ w' = w := by
  have hl := txt_length s
  generalize hR : slashN (txt s) s.size 0 = R
  have HR : Hid _ := hR
  clear hR
  go_enter Tryd.func65, Tryd.ntmps65
  go_wp2
  go_loop [3] (fun i => ∃ k : Nat, k ≤ s.size ∧ i = .int .i64 k ∧ R = slashN (txt s) (s.size - k) k) (fun i => s.size - (intOf i).toNat)
  case atStart => exact ⟨0, Nat.zero_le _, rfl, HR.out.symm⟩
  case round =>
    obtain ⟨k, hk, rfl, hrk⟩ := hrel
    have HK : Hid _ := hrk
    clear hrk HR
    by_cases hlt : k < s.size
    · have hx := txt_at s k hlt
      have hb := byte_at s k hlt
      have hst : slashN (txt s) (s.size - k) k = if (((s[k]'hlt).toNat : Nat) : Int) = 47 then k else slashN (txt s) (s.size - (k + 1)) (k + 1) := by
        have e : s.size - k = (s.size - (k + 1)) + 1 := by omega
        rw [e, slashN, List.getD_eq_getElem?_getD, hx]
        rfl
      by_cases h47 : (((s[k]'hlt).toNat : Nat) : Int) = 47
      · rw [if_pos h47] at hst
        have q : ((((s[k]'hlt).toNat : Nat) : Int) != 47) = false := by simpa using h47
        have HE : Hid (R = k) := HK.out.trans hst
        clear hst hx h47
        go_wp2
        go_ret
        exact ⟨by rw [HE.out]; rfl, rfl⟩
      · rw [if_neg h47] at hst
        have q : ((((s[k]'hlt).toNat : Nat) : Int) != 47) = true := by simpa using h47
        have HE : Hid _ := HK.out.trans hst
        clear hst hx
        go_wp2
        exact ⟨⟨k + 1, by omega, by simp, HE.out⟩, by simp [intOf]; omega⟩
    · obtain rfl : k = s.size := by omega
      have HE : Hid (R = s.size) := HK.out.trans (by rw [Nat.sub_self]; rfl)
      clear HK
      go_wp2
      go_ret
      exact ⟨by rw [HE.out]; rfl, rfl⟩

set_option maxHeartbeats 1000000 in
theorem length_ref (s : ByteArray) (most : Int) (w : World) (hs : s.size ≤ 140737488355328) (hm : 0 ≤ most ∧ most ≤ 1000000) : Calls Tryd.prog 66 #[.string s, .int .i64 most] w fun e w' => e = .returned (.int .i64 (lenN (txt s) most s.size 0 : Nat)) ∧ w' = w := by
  have hl := txt_length s
  generalize hR : lenN (txt s) most s.size 0 = R
  have HR : Hid _ := hR
  clear hR
  go_enter Tryd.func66, Tryd.ntmps66
  go_wp2
  go_loop [5] (fun i => ∃ k : Nat, k ≤ s.size ∧ i = .int .i64 k ∧ R = lenN (txt s) most (s.size - k) k) (fun i => s.size - (intOf i).toNat)
  case atStart => exact ⟨0, Nat.zero_le _, rfl, HR.out.symm⟩
  case round =>
    obtain ⟨k, hk, rfl, hrk⟩ := hrel
    have HK : Hid _ := hrk
    clear hrk HR
    by_cases hlt : k < s.size
    · have hoc := octet_ref (s.extract 0 (k + 1)) most w hm
      rw [txt_extract, List.drop_zero, Nat.sub_zero] at hoc
      have hst : lenN (txt s) most (s.size - k) k = if octB ((txt s).take (k + 1)) most then lenN (txt s) most (s.size - (k + 1)) (k + 1) else k := by
        have e : s.size - k = (s.size - (k + 1)) + 1 := by omega
        rw [e, lenN]
      cases hob : octB ((txt s).take (k + 1)) most with
      | true =>
        rw [hob] at hoc
        rw [hob, if_pos rfl] at hst
        have HE : Hid _ := HK.out.trans hst
        have HO : Hid _ := hoc
        clear hst hob hoc
        go_wp2_with fail
        refine Calls.mono HO.out ?_
        rintro e w' ⟨rfl, rfl⟩
        go_wp2
        exact ⟨⟨k + 1, by omega, by simp, HE.out⟩, by simp [intOf]; omega⟩
      | false =>
        rw [hob] at hoc
        rw [hob] at hst
        have HE : Hid (R = k) := HK.out.trans hst
        have HO : Hid _ := hoc
        clear hst hob hoc
        go_wp2_with fail
        refine Calls.mono HO.out ?_
        rintro e w' ⟨rfl, rfl⟩
        go_wp2
        go_ret
        exact ⟨by rw [HE.out]; rfl, rfl⟩
    · obtain rfl : k = s.size := by omega
      have HE : Hid (R = s.size) := HK.out.trans (by rw [Nat.sub_self]; rfl)
      clear HK
      go_wp2
      go_ret
      exact ⟨by rw [HE.out]; rfl, rfl⟩

end Go.Proofs.YtlpbffcijhgelaaDoor

namespace Go.Proofs.YtlpbffcijhgelaaDoor
set_option linter.unusedVariables false
set_option linter.unusedSimpArgs false
open Go Go.RowKit

set_option maxHeartbeats 4000000 in
set_option maxRecDepth 100000 in
theorem Parse6_good (s : ByteArray) (x : SixS) (G : List Int) (w : World) (hrd : ∀ W, Calls Tryd.prog 57 #[.string s] W fun e w' => Read6Post s W e w') (hL : read6 (txt s) s.size 0 ⟨[], -1, []⟩ = (x, s.size)) (hwf : ∀ (W : World) (v : Value) (p : ByteArray) (base : Nat), W.ownsRow base 3 1 v x.L.length (intsL x.L) → txt p = x.part → Calls Tryd.prog 58 #[.string s, .agg (sixL v x.gap p).toArray] W fun e w' => Whole6Post G true W e w') (hG8 : G.length = 8) (hGz : ∀ z ∈ G, 0 ≤ z ∧ z < 65536) :
    Calls Tryd.prog 19 #[.string s] w fun e w' => Par6Post (byK G 8, 0, 0) w e w' := by
  generalize hQ : (fun e w' => Par6Post (byK G 8, 0, 0) w e w') = Q
  have HQ : Hid _ := hQ
  clear hQ
  have hb0 := blk_new w (.cells zero16V.toArray 31)
  have hB0 := (Below.refl w.heap.size w).alloc (Nat.le_refl _) (.cells zero16V.toArray 31)
  have hz0 : (w.alloc (.cells zero16V.toArray 31)).heap.size = w.heap.size + 1 := by simp
  have HZ0 : Hid _ := hz0
  have HRD : Hid _ := hrd
  clear hrd hz0
  have HWF : Hid _ := hwf
  clear hwf
  go_enter Tryd.func19, Tryd.ntmps19
  go_wp2_with fail
  generalize hW : w.alloc (.cells zero16V.toArray 31) = W0 at *
  clear hW
  refine (HRD.out W0).mono ?_
  rintro e w1 ⟨v, p, rfl, hrow, hp, hB1⟩
  rw [hL] at hrow hp ⊢
  simp only at hrow hp ⊢
  have hz0 := HZ0.out
  have hb1 := (hB1.block _ (by omega)).trans hb0
  have hBw1 := hB0.trans (hB1.mono (by omega))
  obtain ⟨a, cap, rfl, _⟩ := own_form hrow
  obtain ⟨w2, hst, bx2, hB2⟩ := box_new Tryd.sizeOf89 w1 (sixL (.slice none 0 0) 0 ⟨#[]⟩) rfl (sixL (.slice a x.L.length cap) x.gap p) rfl (by simp [sixL, Value.oneCell'])
  have hrow2 := row_kept hrow (fun g _ hg => hB2.block g hg)
  have hwh := HWF.out w2 _ p _ hrow2 hp
  have hb2 := (hB2.block _ (Nat.lt_of_lt_of_le (by omega) hB1.size)).trans hb1
  have hBw2 := hBw1.trans (hB2.mono hBw1.size)
  have HST : Hid _ := hst
  have HL6 : Hid _ := agg_load (t := 89) Tryd.isAgg89 Tryd.sizeOf89 rfl (CellsAt.of_blk bx2)
  have HWH : Hid _ := hwh
  have hlt2 : w.heap.size < w2.heap.size := Nat.lt_of_lt_of_le (by omega) (Nat.le_trans hB1.size hB2.size)
  clear hst hwh hrow hrow2 hp hb0 hB0 hz0 HZ0 HRD hb1 hBw1
  go_wp2_with first
    | ((with_reducible show wpList _ _ _ _ _ _); refine armS (.tmp 5) (.tmp 14) 89 rfl rfl rfl rfl HST.out ?_)
    | ((with_reducible show wpList _ _ _ _ _ _); refine armL (.tmp 5) 89 rfl rfl rfl HL6.out ?_)
  refine Calls.mono HWH.out ?_
  rintro e w3 ⟨v3, rfl, hrow3, hB3⟩
  have hb3 := (hB3.block _ hlt2).trans hb2
  have hBw3 := hBw2.trans (hB3.mono hBw2.size)
  obtain ⟨a3, cap3, rfl, _, hz3⟩ := own_form hrow3
  rw [hG8] at hz3
  rcases hz3 with hz3 | ⟨g, rfl, _, hg, hc⟩
  · omega
  obtain ⟨w4, hst4, b4, hB4⟩ := box_new Tryd.sizeOf31 w3 zero16V rfl zero16V rfl zero16V_one
  have HST4 : Hid _ := hst4
  have hb4 := (hB4.block _ (Nat.lt_of_lt_of_le hlt2 hB3.size)).trans hb3
  have hBw4 := hBw3.trans (hB4.mono hBw3.size)
  have hc4 : ∀ (j : Nat) u, (intsL G)[j]? = some u → w4.cell? ⟨g, j, none⟩ = some u := fun j u hj => (hB4.cell (p := ⟨g, j, none⟩) hg).trans (hc j u hj)
  have hlt3 : w.heap.size < w3.heap.size := Nat.lt_of_lt_of_le hlt2 hB3.size
  clear hst4 hrow3 hb2 hb3 hc hB3 hBw2 HWH HST HL6 bx2 hB2 hlt2
  rw [hG8]
  go_wp2_with ((with_reducible show wpList _ _ _ _ _ _); refine armS (.tmp 9) (.tmp 32) 31 rfl rfl rfl rfl HST4.out ?_)
  go_loopw [10] (fun i wr => ∃ k : Nat, k ≤ 8 ∧ i = .int .i64 k ∧ wr.heap[w3.heap.size]? = some (.cells (b8 (byK G k)).toArray 31) ∧ Only w3.heap.size w4 wr) (fun i _ => 8 - (intOf i).toNat)
  case atStart => exact ⟨0, Nat.zero_le _, rfl, b4, Only.refl _ _⟩
  case round =>
    obtain ⟨k, hk, rfl, hbk, hon⟩ := hrel
    by_cases hlt : k < 8
    · obtain ⟨z0, z1, z2, z3, z4, z5, z6, z7, rfl⟩ := list8 hG8
      have ff := blk_open hbk
      have hkk : k = 0 ∨ k = 1 ∨ k = 2 ∨ k = 3 ∨ k = 4 ∨ k = 5 ∨ k = 6 ∨ k = 7 := by omega
      have hcr : ∀ (j : Nat) u, (intsL [z0, z1, z2, z3, z4, z5, z6, z7])[j]? = some u → wr.cell? ⟨g, j, none⟩ = some u := fun j u hj => ((hon.below (B := w3.heap.size) (Nat.le_refl _)).cell (p := ⟨g, j, none⟩) hg).trans (hc4 j u hj)
      clear hc4 hG8 HQ
      rcases hkk with rfl | rfl | rfl | rfl | rfl | rfl | rfl | rfl
      · have hzk := hGz z0 (by simp)
        have r1 := hcr 0 _ rfl
        have r2 := blk_cell hbk (j := 0) rfl
        have r3 := blk_cell hbk (j := 1) rfl
        have HS : Hid _ := blk_set (blk_set hbk 0 (.int .u8 (z0 / 256))) 1 (.int .u8 (z0 % 256))
        have HO : Hid _ := ((hon.set 0 (.int .u8 (z0 / 256))).set 1 (.int .u8 (z0 % 256))).drew
        clear hcr hGz hk hlt
        go_wp2_with fail
        go_region
        go_wp2
        exact ⟨⟨1, by decide, by simp, HS.out, HO.out⟩, by simp [intOf]⟩
      · have hzk := hGz z1 (by simp)
        have r1 := hcr 1 _ rfl
        have r2 := blk_cell hbk (j := 2) rfl
        have r3 := blk_cell hbk (j := 3) rfl
        have HS : Hid _ := blk_set (blk_set hbk 2 (.int .u8 (z1 / 256))) 3 (.int .u8 (z1 % 256))
        have HO : Hid _ := ((hon.set 2 (.int .u8 (z1 / 256))).set 3 (.int .u8 (z1 % 256))).drew
        clear hcr hGz hk hlt
        go_wp2_with fail
        go_region
        go_wp2
        exact ⟨⟨2, by decide, by simp, HS.out, HO.out⟩, by simp [intOf]⟩
      · have hzk := hGz z2 (by simp)
        have r1 := hcr 2 _ rfl
        have r2 := blk_cell hbk (j := 4) rfl
        have r3 := blk_cell hbk (j := 5) rfl
        have HS : Hid _ := blk_set (blk_set hbk 4 (.int .u8 (z2 / 256))) 5 (.int .u8 (z2 % 256))
        have HO : Hid _ := ((hon.set 4 (.int .u8 (z2 / 256))).set 5 (.int .u8 (z2 % 256))).drew
        clear hcr hGz hk hlt
        go_wp2_with fail
        go_region
        go_wp2
        exact ⟨⟨3, by decide, by simp, HS.out, HO.out⟩, by simp [intOf]⟩
      · have hzk := hGz z3 (by simp)
        have r1 := hcr 3 _ rfl
        have r2 := blk_cell hbk (j := 6) rfl
        have r3 := blk_cell hbk (j := 7) rfl
        have HS : Hid _ := blk_set (blk_set hbk 6 (.int .u8 (z3 / 256))) 7 (.int .u8 (z3 % 256))
        have HO : Hid _ := ((hon.set 6 (.int .u8 (z3 / 256))).set 7 (.int .u8 (z3 % 256))).drew
        clear hcr hGz hk hlt
        go_wp2_with fail
        go_region
        go_wp2
        exact ⟨⟨4, by decide, by simp, HS.out, HO.out⟩, by simp [intOf]⟩
      · have hzk := hGz z4 (by simp)
        have r1 := hcr 4 _ rfl
        have r2 := blk_cell hbk (j := 8) rfl
        have r3 := blk_cell hbk (j := 9) rfl
        have HS : Hid _ := blk_set (blk_set hbk 8 (.int .u8 (z4 / 256))) 9 (.int .u8 (z4 % 256))
        have HO : Hid _ := ((hon.set 8 (.int .u8 (z4 / 256))).set 9 (.int .u8 (z4 % 256))).drew
        clear hcr hGz hk hlt
        go_wp2_with fail
        go_region
        go_wp2
        exact ⟨⟨5, by decide, by simp, HS.out, HO.out⟩, by simp [intOf]⟩
      · have hzk := hGz z5 (by simp)
        have r1 := hcr 5 _ rfl
        have r2 := blk_cell hbk (j := 10) rfl
        have r3 := blk_cell hbk (j := 11) rfl
        have HS : Hid _ := blk_set (blk_set hbk 10 (.int .u8 (z5 / 256))) 11 (.int .u8 (z5 % 256))
        have HO : Hid _ := ((hon.set 10 (.int .u8 (z5 / 256))).set 11 (.int .u8 (z5 % 256))).drew
        clear hcr hGz hk hlt
        go_wp2_with fail
        go_region
        go_wp2
        exact ⟨⟨6, by decide, by simp, HS.out, HO.out⟩, by simp [intOf]⟩
      · have hzk := hGz z6 (by simp)
        have r1 := hcr 6 _ rfl
        have r2 := blk_cell hbk (j := 12) rfl
        have r3 := blk_cell hbk (j := 13) rfl
        have HS : Hid _ := blk_set (blk_set hbk 12 (.int .u8 (z6 / 256))) 13 (.int .u8 (z6 % 256))
        have HO : Hid _ := ((hon.set 12 (.int .u8 (z6 / 256))).set 13 (.int .u8 (z6 % 256))).drew
        clear hcr hGz hk hlt
        go_wp2_with fail
        go_region
        go_wp2
        exact ⟨⟨7, by decide, by simp, HS.out, HO.out⟩, by simp [intOf]⟩
      · have hzk := hGz z7 (by simp)
        have r1 := hcr 7 _ rfl
        have r2 := blk_cell hbk (j := 14) rfl
        have r3 := blk_cell hbk (j := 15) rfl
        have HS : Hid _ := blk_set (blk_set hbk 14 (.int .u8 (z7 / 256))) 15 (.int .u8 (z7 % 256))
        have HO : Hid _ := ((hon.set 14 (.int .u8 (z7 / 256))).set 15 (.int .u8 (z7 % 256))).drew
        clear hcr hGz hk hlt
        go_wp2_with fail
        go_region
        go_wp2
        exact ⟨⟨8, by decide, by simp, HS.out, HO.out⟩, by simp [intOf]⟩
    · obtain rfl : k = 8 := by omega
      have hlb : (b8 (byK G 8)).length = 16 := by
        obtain ⟨z0, z1, z2, z3, z4, z5, z6, z7, rfl⟩ := list8 hG8
        rfl
      have hbR := ((hon.below (B := w3.heap.size) (Nat.le_refl _)).block _ hlt3).trans hb4
      have hBR : Below w.heap.size w wr := hBw4.trans (hon.below (by omega))
      have hL := agg_load (t := 31) Tryd.isAgg31 Tryd.sizeOf31 hlb (CellsAt.of_blk hbk)
      obtain ⟨wE, hst, bE, honE⟩ := box_store Tryd.sizeOf31 hbR rfl (b8 (byK G 8)) hlb (b8_one _)
      have hlv := agg_loadVar (t := 31) Tryd.isAgg31 Tryd.sizeOf31 hlb (CellsAt.of_blk bE)
      have HBE : Hid (Below w.heap.size w wE) := hBR.trans (honE.below (Nat.le_refl _))
      have HL : Hid _ := hL
      have HSQ : Hid _ := hst
      have HLV : Hid _ := hlv
      clear hL hst hlv bE honE hbR hBR hbk hon
      go_wp2_with first
        | ((with_reducible show wpList _ _ _ _ _ _); refine armL (.tmp 9) 31 rfl rfl rfl HL.out ?_)
        | ((with_reducible show wpList _ _ _ _ _ _); refine armS (.tmp 2) (.tmp 56) 31 rfl rfl rfl rfl HSQ.out ?_)
      refine bodyPost_ret (res3c Tryd.results19 rfl HLV.out) rfl ?_
      rw [← HQ.out]
      exact ⟨rfl, HBE.out⟩

set_option maxHeartbeats 4000000 in
set_option maxRecDepth 100000 in
theorem Parse6_short (s : ByteArray) (x : SixS) (n : Nat) (w : World) (hrd : ∀ W, Calls Tryd.prog 57 #[.string s] W fun e w' => Read6Post s W e w') (hL : read6 (txt s) s.size 0 ⟨[], -1, []⟩ = (x, n)) (hn : n < s.size) (hs : s.size ≤ 140737488355328) :
    Calls Tryd.prog 19 #[.string s] w fun e w' => Par6Post (zero16, n, 20) w e w' := by
  generalize hQ : (fun e w' => Par6Post (zero16, n, 20) w e w') = Q
  have HQ : Hid _ := hQ
  clear hQ
  have hb0 := blk_new w (.cells zero16V.toArray 31)
  have hB0 := (Below.refl w.heap.size w).alloc (Nat.le_refl _) (.cells zero16V.toArray 31)
  have hz0 : (w.alloc (.cells zero16V.toArray 31)).heap.size = w.heap.size + 1 := by simp
  have HZ0 : Hid _ := hz0
  have HRD : Hid _ := hrd
  clear hrd hz0
  go_enter Tryd.func19, Tryd.ntmps19
  go_wp2_with fail
  generalize hW : w.alloc (.cells zero16V.toArray 31) = W0 at *
  clear hW
  refine (HRD.out W0).mono ?_
  rintro e w1 ⟨v, p, rfl, hrow, hp, hB1⟩
  rw [hL] at hrow hp ⊢
  simp only at hrow hp ⊢
  have hz0 := HZ0.out
  have hb1 := (hB1.block _ (by omega)).trans hb0
  have hBw1 := hB0.trans (hB1.mono (by omega))
  obtain ⟨a, cap, rfl, _⟩ := own_form hrow
  obtain ⟨w2, hst, bx2, hB2⟩ := box_new Tryd.sizeOf89 w1 (sixL (.slice none 0 0) 0 ⟨#[]⟩) rfl (sixL (.slice a x.L.length cap) x.gap p) rfl (by simp [sixL, Value.oneCell'])
  have hb2 := (hB2.block _ (Nat.lt_of_lt_of_le (by omega) hB1.size)).trans hb1
  have hBw2 := hBw1.trans (hB2.mono hBw1.size)
  have hlt2 : w.heap.size < w2.heap.size := Nat.lt_of_lt_of_le (by omega) (Nat.le_trans hB1.size hB2.size)
  have HST : Hid _ := hst
  obtain ⟨w4, hst4, b4, hB4⟩ := box_store Tryd.sizeOf31 hb2 rfl zero16V rfl zero16V_one
  have HST4 : Hid _ := hst4
  have HLV : Hid _ := agg_loadVar (t := 31) Tryd.isAgg31 Tryd.sizeOf31 rfl (CellsAt.of_blk b4)
  have HBE : Hid (Below w.heap.size w w4) := hBw2.trans (hB4.below (Nat.le_refl _))
  clear hst hrow hp hb0 hB0 hz0 HZ0 HRD hb1 hBw1 hst4 b4 hB4 bx2 hB2 hlt2 hb2 hBw2
  go_wp2_with first
    | ((with_reducible show wpList _ _ _ _ _ _); refine armS (.tmp 5) (.tmp 14) 89 rfl rfl rfl rfl HST.out ?_)
    | ((with_reducible show wpList _ _ _ _ _ _); refine armS (.tmp 2) (.tmp 20) 31 rfl rfl rfl rfl HST4.out ?_)
  refine bodyPost_ret (res3c Tryd.results19 rfl HLV.out) rfl ?_
  rw [← HQ.out]
  exact ⟨rfl, HBE.out⟩
set_option maxHeartbeats 4000000 in
set_option maxRecDepth 100000 in
theorem Parse6_half (s : ByteArray) (x : SixS) (n : Nat) (w : World) (hrd : ∀ W, Calls Tryd.prog 57 #[.string s] W fun e w' => Read6Post s W e w') (hL : read6 (txt s) s.size 0 ⟨[], -1, []⟩ = (x, n)) (hn : n = s.size) (hwf : ∀ (W : World) (v : Value) (p : ByteArray) (base : Nat), W.ownsRow base 3 1 v x.L.length (intsL x.L) → txt p = x.part → Calls Tryd.prog 58 #[.string s, .agg (sixL v x.gap p).toArray] W fun e w' => ∃ u, e = .returned (.tuple #[u, .bool false]) ∧ Below W.heap.size W w') (hs : s.size ≤ 140737488355328) :
    Calls Tryd.prog 19 #[.string s] w fun e w' => Par6Post (zero16, n, 20) w e w' := by
  generalize hQ : (fun e w' => Par6Post (zero16, n, 20) w e w') = Q
  have HQ : Hid _ := hQ
  clear hQ
  have hb0 := blk_new w (.cells zero16V.toArray 31)
  have hB0 := (Below.refl w.heap.size w).alloc (Nat.le_refl _) (.cells zero16V.toArray 31)
  have hz0 : (w.alloc (.cells zero16V.toArray 31)).heap.size = w.heap.size + 1 := by simp
  have HZ0 : Hid _ := hz0
  have HRD : Hid _ := hrd
  clear hrd hz0
  go_enter Tryd.func19, Tryd.ntmps19
  go_wp2_with fail
  generalize hW : w.alloc (.cells zero16V.toArray 31) = W0 at *
  clear hW
  refine (HRD.out W0).mono ?_
  rintro e w1 ⟨v, p, rfl, hrow, hp, hB1⟩
  rw [hL] at hrow hp ⊢
  simp only at hrow hp ⊢
  have hz0 := HZ0.out
  have hb1 := (hB1.block _ (by omega)).trans hb0
  have hBw1 := hB0.trans (hB1.mono (by omega))
  obtain ⟨a, cap, rfl, _⟩ := own_form hrow
  obtain ⟨w2, hst, bx2, hB2⟩ := box_new Tryd.sizeOf89 w1 (sixL (.slice none 0 0) 0 ⟨#[]⟩) rfl (sixL (.slice a x.L.length cap) x.gap p) rfl (by simp [sixL, Value.oneCell'])
  have hb2 := (hB2.block _ (Nat.lt_of_lt_of_le (by omega) hB1.size)).trans hb1
  have hBw2 := hBw1.trans (hB2.mono hBw1.size)
  have hlt2 : w.heap.size < w2.heap.size := Nat.lt_of_lt_of_le (by omega) (Nat.le_trans hB1.size hB2.size)
  have HST : Hid _ := hst
  have hrow2 := row_kept hrow (fun g _ hg => hB2.block g hg)
  have hwh := hwf w2 _ p _ hrow2 hp
  have HL6 : Hid _ := agg_load (t := 89) Tryd.isAgg89 Tryd.sizeOf89 rfl (CellsAt.of_blk bx2)
  have HWH : Hid _ := hwh
  clear hst hwh hrow hrow2 hp hb0 hB0 hz0 HZ0 HRD hb1 hBw1 hwf
  subst hn
  go_wp2_with first
    | ((with_reducible show wpList _ _ _ _ _ _); refine armS (.tmp 5) (.tmp 14) 89 rfl rfl rfl rfl HST.out ?_)
    | ((with_reducible show wpList _ _ _ _ _ _); refine armL (.tmp 5) 89 rfl rfl rfl HL6.out ?_)
  refine Calls.mono HWH.out ?_
  rintro e w3 ⟨v3, rfl, hB3⟩
  have hb3 := (hB3.block _ hlt2).trans hb2
  have hBw3 := hBw2.trans (hB3.mono hBw2.size)
  obtain ⟨w4, hst4, b4, hB4⟩ := box_store Tryd.sizeOf31 hb3 rfl zero16V rfl zero16V_one
  have HST4 : Hid _ := hst4
  have HLV : Hid _ := agg_loadVar (t := 31) Tryd.isAgg31 Tryd.sizeOf31 rfl (CellsAt.of_blk b4)
  have HBE : Hid (Below w.heap.size w w4) := hBw3.trans (hB4.below (Nat.le_refl _))
  clear hst4 b4 hB4 hb2 hb3 hB3 hBw2 hBw3 HWH HST HL6 bx2 hB2 hlt2
  go_wp2_with ((with_reducible show wpList _ _ _ _ _ _); refine armS (.tmp 2) (.tmp 30) 31 rfl rfl rfl rfl HST4.out ?_)
  refine bodyPost_ret (res3c Tryd.results19 rfl HLV.out) rfl ?_
  rw [← HQ.out]
  exact ⟨rfl, HBE.out⟩
end Go.Proofs.YtlpbffcijhgelaaDoor

namespace Go.Proofs.YtlpbffcijhgelaaDoor
open Go Go.RowKit
set_option linter.unusedVariables false

theorem Awake.on {W : World} (tb : Tabs W ∧ Tz W) (w' : World) (hb : Below W.heap.size W w') : Calls Tryd.prog 17 #[] w' fun e w'' => e = .returned (.bool true) ∧ Below w'.heap.size w' w'' :=
  awake_calls w' ⟨Tabs.on tb.1 hb, Tz.on tb.2 hb⟩

end Go.Proofs.YtlpbffcijhgelaaDoor
