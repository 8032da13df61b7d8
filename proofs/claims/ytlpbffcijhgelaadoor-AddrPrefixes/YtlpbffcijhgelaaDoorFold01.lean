/-
  IPv4 prefixes: the document's Cover4, and its Cut4 of lengths that may not be.
  Addresses and prefixes that came in, as numbers.
  IPv4 prefixes: the program's Has4, and that both sides say the same of what a prefix has and covers.
  Prefixes as sets: two of them meet just when one covers the other; to cover is a partial order.
  IPv6 addresses and prefixes as one value each: loads, literals, equality. IPv6 prefixes: cut6, Cut6. IPv6 prefixes: Cut6 and Check6 of the program. IPv6 prefixes: Check6 of the program. IPv6 prefixes: Cover6 and Has6 of the program. IPv6 prefixes: Has6 of the program. IPv6 prefixes: the document's Low6 and Check6. IPv6 prefixes: the document's Cut6. IPv6 prefixes: the document's Cover6; IPv6 addresses and prefixes as arguments.
  Text4.
-/
import Derived.Test.YtlpbffcijhgelaaDoorFold00
import Derived.OpenShut
import Derived.ChangeArms
import Derived.ChangeSame
import Derived.ProofKit
import Derived.Test.YtlpbffcijhgelaaDoorAddrCov
import Derived.Test.YtlpbffcijhgelaaDoorAgg
import Derived.Test.YtlpbffcijhgelaaDoorShelf
import Derived.Test.YtlpbffcijhgelaaDoorAddrParse4
namespace Go.Proofs.YtlpbffcijhgelaaDoor
open Go Go.RowKit
set_option linter.unusedVariables false
set_option linter.unusedSimpArgs false

set_option maxHeartbeats 2000000 in
set_option maxRecDepth 100000 in
theorem RCut4_no (a0 a1 a2 a3 n : Int) (w : World) (hn : n < 0 ∨ 32 < n) (hb : -9223372036854775808 ≤ n ∧ n ≤ 9223372036854775807) :
    Calls Tryd.prog 35 #[A4 a0 a1 a2 a3, .int .i64 n] w fun e w' => e = .returned (.tuple #[P4 0 0 0 0 0, .int .i64 5]) ∧ Below w.heap.size w w' := by
  have hB : Below w.heap.size w ((w.alloc (.cells #[.int .u8 a0, .int .u8 a1, .int .u8 a2, .int .u8 a3] 23)).alloc (.cells #[.int .u8 0, .int .u8 0, .int .u8 0, .int .u8 0, .int .i64 0] 38)) := ((Below.refl _ w).alloc (Nat.le_refl _) _).alloc (by simp) _
  have hR : ((w.alloc (.cells #[.int .u8 a0, .int .u8 a1, .int .u8 a2, .int .u8 a3] 23)).alloc (.cells #[.int .u8 0, .int .u8 0, .int .u8 0, .int .u8 0, .int .i64 0] 38)).heap[w.heap.size + 1]? = some (.cells #[.int .u8 0, .int .u8 0, .int .u8 0, .int .u8 0, .int .i64 0] 38) := alloc_new2 _ _ _
  obtain ⟨hfz, r0, r1, r2, r3, r4⟩ := Slot.of hR (Below.refl _ _)
  have hl := loadP4 r0 r1 r2 r3 r4
  have HL : Hid _ := hl
  clear hl hR hfz r0 r1 r2 r3 r4
  rcases hn with hn | hn
  all_goals
    go_enter Tryd.func35, Tryd.ntmps35
    go_wp2
    exact bodyPost_ret (res_cell2 rfl rfl HL.out) rfl ⟨rfl, hB⟩

def rcovB (a0 a1 a2 a3 n b0 b1 b2 b3 m : Int) : Bool := hasB a0 a1 a2 a3 n b0 b1 b2 b3 && decide (n ≤ m)

set_option maxHeartbeats 4000000 in
set_option maxRecDepth 100000 in
theorem RCover4_calls (a0 a1 a2 a3 n b0 b1 b2 b3 m : Int) (w : World) (h0 : 0 ≤ a0 ∧ a0 < 256) (h1 : 0 ≤ a1 ∧ a1 < 256) (h2 : 0 ≤ a2 ∧ a2 < 256) (h3 : 0 ≤ a3 ∧ a3 < 256) (hb : -9223372036854775808 ≤ n ∧ n ≤ 9223372036854775807)
    (g0 : 0 ≤ b0 ∧ b0 < 256) (g1 : 0 ≤ b1 ∧ b1 < 256) (g2 : 0 ≤ b2 ∧ b2 < 256) (g3 : 0 ≤ b3 ∧ b3 < 256) (gb : -9223372036854775808 ≤ m ∧ m ≤ 9223372036854775807) :
    Calls Tryd.prog 33 #[P4 a0 a1 a2 a3 n, P4 b0 b1 b2 b3 m] w fun e w' => e = .returned (.tuple #[.bool ((okP4 a0 a1 a2 a3 n && okP4 b0 b1 b2 b3 m) && rcovB a0 a1 a2 a3 n b0 b1 b2 b3 m), .int .i64 (if okP4 a0 a1 a2 a3 n && okP4 b0 b1 b2 b3 m then 0 else 22)]) ∧ Below w.heap.size w w' := by
  have hB : Below w.heap.size w ((w.alloc (.cells #[.int .u8 a0, .int .u8 a1, .int .u8 a2, .int .u8 a3, .int .i64 n] 38)).alloc (.cells #[.int .u8 b0, .int .u8 b1, .int .u8 b2, .int .u8 b3, .int .i64 m] 38)) := ((Below.refl _ w).alloc (Nat.le_refl _) _).alloc (by simp) _
  have hc1 := fun w => RCheck4_calls a0 a1 a2 a3 n w h0 h1 h2 h3 hb
  have hc2 := fun w => RCheck4_calls b0 b1 b2 b3 m w g0 g1 g2 g3 gb
  have hhs := fun w => RHas4_calls a0 a1 a2 a3 n b0 b1 b2 b3 w h0 h1 h2 h3 hb g0 g1 g2 g3
  have htwo := fun (w' : World) => @two_blocks w (.cells #[.int .u8 a0, .int .u8 a1, .int .u8 a2, .int .u8 a3, .int .i64 n] 38) (.cells #[.int .u8 b0, .int .u8 b1, .int .u8 b2, .int .u8 b3, .int .i64 m] 38) w'
  have cells : ∀ W : World, (W.heap[w.heap.size]? = some (.cells #[.int .u8 a0, .int .u8 a1, .int .u8 a2, .int .u8 a3, .int .i64 n] 38) ∧ W.heap[w.heap.size + 1]? = some (.cells #[.int .u8 b0, .int .u8 b1, .int .u8 b2, .int .u8 b3, .int .i64 m] 38)) →
      (W.cell? ⟨w.heap.size, 0, none⟩ = some (.int .u8 a0) ∧ W.cell? ⟨w.heap.size, 1, none⟩ = some (.int .u8 a1) ∧ W.cell? ⟨w.heap.size, 2, none⟩ = some (.int .u8 a2) ∧ W.cell? ⟨w.heap.size, 3, none⟩ = some (.int .u8 a3) ∧ W.cell? ⟨w.heap.size, 4, none⟩ = some (.int .i64 n) ∧
       W.cell? ⟨w.heap.size + 1, 0, none⟩ = some (.int .u8 b0) ∧ W.cell? ⟨w.heap.size + 1, 1, none⟩ = some (.int .u8 b1) ∧ W.cell? ⟨w.heap.size + 1, 2, none⟩ = some (.int .u8 b2) ∧ W.cell? ⟨w.heap.size + 1, 3, none⟩ = some (.int .u8 b3) ∧ W.cell? ⟨w.heap.size + 1, 4, none⟩ = some (.int .i64 m)) := by
    intro W ⟨e1, e2⟩
    simp [World.cell?, e1, e2]
  have HB : Hid _ := hB
  have HT : Hid _ := htwo
  have HC1 : Hid _ := hc1
  have HC2 : Hid _ := hc2
  have HH : Hid _ := hhs
  have CL : Hid _ := cells
  unfold rcovB
  clear hB htwo hc1 hc2 hhs cells
  generalize hdd : decide (n ≤ m) = dd at *
  generalize hasB a0 a1 a2 a3 n b0 b1 b2 b3 = bb at *
  generalize okP4 a0 a1 a2 a3 n = ok1 at *
  generalize okP4 b0 b1 b2 b3 m = ok2 at *
  cases ok1
  · go_enter Tryd.func33, Tryd.ntmps33
    go_wp2_with fail
    refine Calls.mono (HC1.out _) ?_
    rintro e w2 ⟨rfl, hB2⟩
    go_wp2
    go_ret2
    exact ⟨rfl, HB.out.trans (hB2.mono HB.out.size)⟩
  · cases ok2
    · go_enter Tryd.func33, Tryd.ntmps33
      go_wp2_with fail
      refine Calls.mono (HC1.out _) ?_
      rintro e w2 ⟨rfl, hB2⟩
      obtain ⟨c0, c1, c2, c3, c4, d0, d1, d2, d3, d4⟩ := CL.out w2 (HT.out w2 hB2)
      have hBB := HB.out.trans (hB2.mono HB.out.size)
      go_wp2_with fail
      refine Calls.mono (HC2.out _) ?_
      rintro e w3 ⟨rfl, hB3⟩
      go_wp2
      go_ret2
      exact ⟨rfl, hBB.trans (hB3.mono hBB.size)⟩
    · go_enter Tryd.func33, Tryd.ntmps33
      go_wp2_with fail
      refine Calls.mono (HC1.out _) ?_
      rintro e w2 ⟨rfl, hB2⟩
      obtain ⟨c0, c1, c2, c3, c4, d0, d1, d2, d3, d4⟩ := CL.out w2 (HT.out w2 hB2)
      have hBB := HB.out.trans (hB2.mono HB.out.size)
      go_wp2_with fail
      refine Calls.mono (HC2.out _) ?_
      rintro e w3 ⟨rfl, hB3⟩
      have hB23 := hB2.trans (hB3.mono hB2.size)
      have hBC := HB.out.trans (hB23.mono HB.out.size)
      clear c0 c1 c2 c3 c4 d0 d1 d2 d3 d4
      obtain ⟨c0, c1, c2, c3, c4, d0, d1, d2, d3, d4⟩ := CL.out w3 (HT.out w3 hB23)
      go_wp2_with fail
      refine Calls.mono (HH.out _) ?_
      rintro e w4 ⟨rfl, hB4⟩
      have hB24 := hB23.trans (hB4.mono hB23.size)
      have hBD := HB.out.trans (hB24.mono HB.out.size)
      clear c0 c1 c2 c3 c4 d0 d1 d2 d3 d4
      obtain ⟨c0, c1, c2, c3, c4, d0, d1, d2, d3, d4⟩ := CL.out w4 (HT.out w4 hB24)
      clear HC1 HC2 HH HT CL
      cases bb <;> cases dd
      all_goals
        go_wp2
        go_ret2
        exact ⟨rfl, hBD⟩

end Go.Proofs.YtlpbffcijhgelaaDoor

namespace Go.Proofs.YtlpbffcijhgelaaDoor
open Go Go.RowKit
set_option linter.unusedVariables false
set_option linter.unusedSimpArgs false

theorem cells_arr {H : Type} {enc : TypeId × Value → H} {w : World} {base : Nat} {spare : Nat → Bool} {held : Bool} {fuel : Nat} {t : TypeId} {cs : List Value} {x : DataW H × List MemPlace} {n : Nat}
    (ht : Tryd.prog.underlying t = some (.array n 5)) (ct : Tryd.prog.cellsOf t = n) (ce : Tryd.prog.cellsOf 5 = 1) (h : DataW.trod enc Tryd.prog w base spare held fuel t cs = some x) :
    ∃ zs : List Int, zs.length = n ∧ cs = zs.map (fun z => Value.int .u8 z) ∧ FitB zs := by
  obtain ⟨xs, m, _, _, hl, hx, hi⟩ := DataW.trod_array ht h
  rw [ct] at hl
  have each : ∀ i, i < n → ∃ z : Int, cs[i]? = some (.int .u8 z) ∧ 0 ≤ z ∧ z < 256 := by
    intro i hin
    have h1 := hi i hin
    rw [ce, Nat.mul_one, List.getElem?_eq_getElem (by omega)] at h1
    obtain ⟨z, e, _, wf⟩ := DataW.trod_int Tryd.underlying5 h1
    have hb := bounds_u8 wf
    refine ⟨z, ?_, by omega, by omega⟩
    have e2 := congrArg (fun l : List Value => l[0]?) e
    simpa [List.getElem?_take, List.getElem?_drop] using e2
  refine ⟨cs.map intOf, by simpa using hl, ?_, ?_⟩
  · refine List.ext_getElem? fun i => ?_
    by_cases c : i < n
    · obtain ⟨z, hz, _⟩ := each i c
      simp [hz, intOf]
    · rw [List.getElem?_eq_none (by omega), List.getElem?_eq_none (by simp; omega)]
  · intro z hz
    obtain ⟨v, hv, rfl⟩ := List.mem_map.1 hz
    obtain ⟨i, hi', e⟩ := List.getElem_of_mem hv
    obtain ⟨z, hz2, hb⟩ := each i (by omega)
    rw [List.getElem?_eq_getElem hi', e] at hz2
    cases hz2
    exact hb

theorem agg_of {v : Value} {l : List Value} (h : v.cells.toList = l) (hl : 2 ≤ l.length) : v = .agg l.toArray := by
  cases v
  case agg cs => simp only [Value.cells] at h; rw [← h]
  all_goals (simp [Value.cells] at h; subst h; simp at hl)

theorem open_addr4 {H : Type} {enc : TypeId × Value → H} {W : World} {v : Value} {d : DataW H} {p : List MemPlace} (h : DataW.Trod enc Tryd.prog W 0 (fun _ => true) true 23 v d p) :
    ∃ a0 a1 a2 a3, v = A4 a0 a1 a2 a3 ∧ (0 ≤ a0 ∧ a0 < 256) ∧ (0 ≤ a1 ∧ a1 < 256) ∧ (0 ≤ a2 ∧ a2 < 256) ∧ (0 ≤ a3 ∧ a3 < 256) := by
  obtain ⟨fuel, hf⟩ := h
  obtain ⟨zs, hl, hcs, hfit⟩ := cells_arr Tryd.underlying23 (by kernel_rfl) (by kernel_rfl) hf
  have hv := agg_of hcs (by simp; omega)
  obtain ⟨x0, x1, x2, x3, rfl⟩ := list4 hl
  exact ⟨x0, x1, x2, x3, hv, hfit _ (by simp), hfit _ (by simp), hfit _ (by simp), hfit _ (by simp)⟩

set_option maxRecDepth 100000 in
theorem open_prefix4 {H : Type} {enc : TypeId × Value → H} {W : World} {v : Value} {d : DataW H} {p : List MemPlace} (h : DataW.Trod enc Tryd.prog W 0 (fun _ => true) true 38 v d p) :
    ∃ a0 a1 a2 a3 n, v = P4 a0 a1 a2 a3 n ∧ (0 ≤ a0 ∧ a0 < 256) ∧ (0 ≤ a1 ∧ a1 < 256) ∧ (0 ≤ a2 ∧ a2 < 256) ∧ (0 ≤ a3 ∧ a3 < 256) ∧ (Lit.int .i64 n).wf = true := by
  obtain ⟨fuel, hf⟩ := h
  obtain ⟨y0, y1, m, _, hl, h0, h1⟩ := Go.ChangeShapes.trod_struct2 Tryd.underlying38 hf
  have c5 : Tryd.prog.cellsOf 38 = 5 := by kernel_rfl
  rw [c5] at hl
  have h0' : DataW.trod enc Tryd.prog W 0 (fun _ => true) true m 23 ((v.cells.toList.drop 0).take (Tryd.prog.cellsOf 23)) = some y0 := h0
  have h1' : DataW.trod enc Tryd.prog W 0 (fun _ => true) true m 3 ((v.cells.toList.drop 4).take (Tryd.prog.cellsOf 3)) = some y1 := h1
  have c4 : Tryd.prog.cellsOf 23 = 4 := by kernel_rfl
  have c1 : Tryd.prog.cellsOf 3 = 1 := by kernel_rfl
  rw [c4] at h0'
  rw [c1] at h1'
  obtain ⟨zs, hzl, hcs, hfit⟩ := cells_arr Tryd.underlying23 (by kernel_rfl) (by kernel_rfl) h0'
  obtain ⟨n, hn, _, wf⟩ := DataW.trod_int Tryd.underlying3 h1'
  obtain ⟨x0, x1, x2, x3, rfl⟩ := list4 hzl
  have hall : v.cells.toList = [.int .u8 x0, .int .u8 x1, .int .u8 x2, .int .u8 x3, .int .i64 n] := by
    have e : v.cells.toList = v.cells.toList.take 4 ++ (v.cells.toList.drop 4).take 1 := by
      rw [List.take_of_length_le (l := v.cells.toList.drop 4) (by simp at hl ⊢; omega), List.take_append_drop]
    rw [e, hn]
    rw [List.drop_zero] at hcs
    rw [hcs]
    rfl
  have hv := agg_of hall (by simp)
  exact ⟨x0, x1, x2, x3, n, hv, hfit _ (by simp), hfit _ (by simp), hfit _ (by simp), hfit _ (by simp), wf⟩

end Go.Proofs.YtlpbffcijhgelaaDoor

namespace Go.Proofs.YtlpbffcijhgelaaDoor
open Go Go.RowKit
set_option linter.unusedVariables false
set_option linter.unusedSimpArgs false

theorem ok32 {a0 a1 a2 a3 : Int} (h0 : 0 ≤ a0 ∧ a0 < 256) (h1 : 0 ≤ a1 ∧ a1 < 256) (h2 : 0 ≤ a2 ∧ a2 < 256) (h3 : 0 ≤ a3 ∧ a3 < 256) : okP4 a0 a1 a2 a3 32 = true := by
  have h := low_ok (a0 := a0) (a1 := a1) (a2 := a2) (a3 := a3) 32 (Nat.le_refl _) h0 h1 h2 h3
  have hl : lowB [a0, a1, a2, a3] 32 = true := by
    unfold lowB
    exact decide_eq_true (fun i hi hn => by simp at hi; omega)
  rw [hl] at h
  unfold okP4
  rw [decide_eq_true (by omega), Bool.true_and]
  exact h.symm

theorem cov_same (a0 a1 a2 a3 n b0 b1 b2 b3 m : Int) : rcovB a0 a1 a2 a3 n b0 b1 b2 b3 m = covB a0 a1 a2 a3 n b0 b1 b2 b3 m := by
  unfold rcovB covB hasB
  rw [Bool.and_comm]
  congr 1
  rw [decide_eq_decide]
  exact ⟨Eq.symm, Eq.symm⟩
theorem has_same {a0 a1 a2 a3 n b0 b1 b2 b3 : Int} (h0 : 0 ≤ b0 ∧ b0 < 256) (h1 : 0 ≤ b1 ∧ b1 < 256) (h2 : 0 ≤ b2 ∧ b2 < 256) (h3 : 0 ≤ b3 ∧ b3 < 256) :
    (bothOk a0 a1 a2 a3 n b0 b1 b2 b3 32 && covB a0 a1 a2 a3 n b0 b1 b2 b3 32) = (okP4 a0 a1 a2 a3 n && hasB a0 a1 a2 a3 n b0 b1 b2 b3) ∧ bothOk a0 a1 a2 a3 n b0 b1 b2 b3 32 = okP4 a0 a1 a2 a3 n := by
  have e : bothOk a0 a1 a2 a3 n b0 b1 b2 b3 32 = okP4 a0 a1 a2 a3 n := by
    unfold bothOk
    rw [ok32 h0 h1 h2 h3, Bool.and_true]
  refine ⟨?_, e⟩
  rw [e]
  cases hok : okP4 a0 a1 a2 a3 n
  · rfl
  · have hn : 0 ≤ n ∧ n ≤ 32 := by simp [okP4] at hok; exact hok.1
    rw [← cov_same]
    unfold rcovB
    rw [decide_eq_true hn.2, Bool.and_true]

set_option maxHeartbeats 2000000 in
set_option maxRecDepth 100000 in
theorem Has4_calls (a0 a1 a2 a3 n b0 b1 b2 b3 : Int) (w : World) (ha : Fits a0 a1 a2 a3 n) (g0 : 0 ≤ b0 ∧ b0 < 256) (g1 : 0 ≤ b1 ∧ b1 < 256) (g2 : 0 ≤ b2 ∧ b2 < 256) (g3 : 0 ≤ b3 ∧ b3 < 256) :
    Calls Tryd.prog 30 #[P4 a0 a1 a2 a3 n, A4 b0 b1 b2 b3] w fun e w' => e = .returned (.tuple #[.bool (okP4 a0 a1 a2 a3 n && hasB a0 a1 a2 a3 n b0 b1 b2 b3), .int .i64 (if okP4 a0 a1 a2 a3 n then 0 else 22)]) ∧ Below w.heap.size w w' := by
  have hB : Below w.heap.size w ((w.alloc (.cells #[.int .u8 a0, .int .u8 a1, .int .u8 a2, .int .u8 a3, .int .i64 n] 38)).alloc (.cells #[.int .u8 b0, .int .u8 b1, .int .u8 b2, .int .u8 b3] 23)) := ((Below.refl _ w).alloc (Nat.le_refl _) _).alloc (by simp) _
  have hs := @has_same a0 a1 a2 a3 n b0 b1 b2 b3 g0 g1 g2 g3
  have hc : ∀ w : World, Calls Tryd.prog 32 #[P4 a0 a1 a2 a3 n, P4 b0 b1 b2 b3 32] w fun e w' => e = .returned (.tuple #[.bool (okP4 a0 a1 a2 a3 n && hasB a0 a1 a2 a3 n b0 b1 b2 b3), .int .i64 (if okP4 a0 a1 a2 a3 n then 0 else 22)]) ∧ Below w.heap.size w w' := by
    intro w
    have h := Cover4_calls a0 a1 a2 a3 n b0 b1 b2 b3 32 w ha ⟨g0, g1, g2, g3, by omega⟩
    rw [hs.1, hs.2] at h
    exact h
  generalize (okP4 a0 a1 a2 a3 n && hasB a0 a1 a2 a3 n b0 b1 b2 b3) = r1 at *
  generalize (if okP4 a0 a1 a2 a3 n = true then (0 : Int) else 22) = r2 at *
  have HC : Hid _ := hc
  have HB : Hid _ := hB
  clear hc hB hs
  go_enter Tryd.func30, Tryd.ntmps30
  go_wp2_with fail
  refine Calls.mono (HC.out _) ?_
  rintro e w2 ⟨rfl, hB2⟩
  go_wp2
  go_ret2
  exact ⟨rfl, HB.out.trans (hB2.mono HB.out.size)⟩

end Go.Proofs.YtlpbffcijhgelaaDoor

namespace Go.Proofs.YtlpbffcijhgelaaDoor
open Go
set_option linter.unusedVariables false

theorem msk_tab : ∀ r, r < 9 → ∀ s, s < 9 → r ≤ s → (255 - 255 / 2 ^ s) &&& (255 - 255 / 2 ^ r) = 255 - 255 / 2 ^ r := by decide
theorem msk_and {n m : Int} (h : n ≤ m) : msk m &&& msk n = msk n := by
  unfold msk
  exact msk_tab _ (by omega) _ (by omega) (by omega)
theorem bl_low {n m : Int} (h : n ≤ m) (z : Int) : bl (bl z m) n = bl z n := by
  unfold bl
  rw [Int.toNat_natCast, Nat.and_assoc, msk_and h]
theorem bl_high {n m : Int} (h : n ≤ m) (z : Int) : bl (bl z n) m = bl z n := by
  unfold bl
  rw [Int.toNat_natCast, Nat.and_assoc, Nat.and_comm (msk n), msk_and h]

/-- A row of bytes whose bits behind the first n are 0. -/
def blR (n : Int) (l : List Int) : List Int := l.mapIdx (fun i z => bl z (n - 8 * i))
theorem blR_low {n m : Int} (h : n ≤ m) (l : List Int) : blR n (blR m l) = blR n l := by
  unfold blR
  rw [List.mapIdx_mapIdx]
  congr 1
  funext i z
  exact bl_low (by omega) z
theorem blR_high {n m : Int} (h : n ≤ m) (l : List Int) : blR m (blR n l) = blR n l := by
  unfold blR
  rw [List.mapIdx_mapIdx]
  congr 1
  funext i z
  exact bl_high (by omega) z

/-- What is to be shown of three prefixes and an address. -/
structure SetLaws (a b c d : List Int) (n m k : Int) : Prop where
  k1 : decide (blR n d = a) = true → decide (blR m d = b) = true → (decide (n ≤ m) && decide (a = blR n b)) = false → (decide (m ≤ n) && decide (b = blR m a)) = true
  k2 : (decide (n ≤ m) && decide (a = blR n b)) = true → (decide (m ≤ n) && decide (b = blR m a)) = true → b = a ∧ m = n
  k3 : (decide (n ≤ m) && decide (a = blR n b)) = true → (decide (m ≤ k) && decide (b = blR m c)) = true → (decide (n ≤ k) && decide (a = blR n c)) = true
  k4 : ((decide (n ≤ m) && decide (a = blR n b)) || (decide (m ≤ n) && decide (b = blR m a))) = (decide (blR n b = a) || decide (blR m a = b))

theorem setLaws (a b c d : List Int) (n m k : Int) (ha : a = blR n a) (hb : b = blR m b) (hc : c = blR k c) : SetLaws a b c d n m k := by
  refine ⟨?_, ?_, ?_, ?_⟩
  · simp only [decide_eq_true_eq, Bool.and_eq_true, Bool.and_eq_false_iff, decide_eq_false_iff_not]
    intro h1 h2 h3
    rcases h3 with h3 | h3
    · refine ⟨by omega, ?_⟩
      rw [← h1, blR_low (show m ≤ n by omega), h2]
    · by_cases hnm : n ≤ m
      · exact absurd (by rw [← h2, blR_low hnm, h1]) h3
      · refine ⟨by omega, ?_⟩
        rw [← h1, blR_low (show m ≤ n by omega), h2]
  · simp only [decide_eq_true_eq, Bool.and_eq_true]
    rintro ⟨h1, h2⟩ ⟨h3, h4⟩
    obtain rfl : m = n := by omega
    exact ⟨by rw [h2, ← hb], rfl⟩
  · simp only [decide_eq_true_eq, Bool.and_eq_true]
    rintro ⟨h1, h2⟩ ⟨h3, h4⟩
    refine ⟨by omega, ?_⟩
    rw [h2, h4, blR_low h1]
  · rw [Bool.eq_iff_iff]
    simp only [Bool.or_eq_true, Bool.and_eq_true, decide_eq_true_eq]
    constructor
    · rintro (⟨h1, h2⟩ | ⟨h1, h2⟩)
      · exact .inl h2.symm
      · exact .inr h2.symm
    · rintro (h | h)
      · by_cases hnm : n ≤ m
        · exact .inl ⟨hnm, h.symm⟩
        · have hab : a = b := by rw [← h, hb, blR_high (show m ≤ n by omega), ← hb]
          exact .inr ⟨by omega, by rw [hab, ← hb]⟩
      · by_cases hnm : m ≤ n
        · exact .inr ⟨hnm, h.symm⟩
        · have hab : b = a := by rw [← h, ha, blR_high (show n ≤ m by omega), ← ha]
          exact .inl ⟨by omega, by rw [hab, ← ha]⟩

theorem blR4 (b0 b1 b2 b3 n : Int) : blR n [b0, b1, b2, b3] = pL b0 b1 b2 b3 n := by
  simp [blR, pL]

end Go.Proofs.YtlpbffcijhgelaaDoor

namespace Go.Proofs.YtlpbffcijhgelaaDoor
open Go Go.RowKit
set_option linter.unusedVariables false
set_option linter.unusedSimpArgs false

def u8s (l : List Int) : List Value := l.map (fun z => Value.int .u8 z)
abbrev A6 (l : List Int) : Value := .agg (u8s l).toArray
def cp6 (l : List Int) (n : Int) : List Value := u8s l ++ [Value.int .i64 n]
abbrev P6 (l : List Int) (n : Int) : Value := .agg (cp6 l n).toArray
theorem cp6_def (l : List Int) (n : Int) : cp6 l n = u8s l ++ [Value.int .i64 n] := rfl
theorem cp6_length (l : List Int) (n : Int) (h : l.length = 16) : (cp6 l n).length = 17 := by simp [cp6, u8s, h]
theorem u8s_length (l : List Int) : (u8s l).length = l.length := by simp [u8s]
theorem u8s_one (l : List Int) : ∀ v ∈ u8s l, v.oneCell' = true := by
  intro v hv
  obtain ⟨z, _, rfl⟩ := List.mem_map.1 hv
  rfl
theorem cp6_one (l : List Int) (n : Int) : ∀ v ∈ cp6 l n, v.oneCell' = true := by
  intro v hv
  rcases List.mem_append.1 hv with h | h
  · exact u8s_one l v h
  · simp at h
    subst h
    rfl
theorem six16 {l : List Int} (h : l.length = 16) : ∃ a0 a1 a2 a3 a4 a5 a6 a7 a8 a9 a10 a11 a12 a13 a14 a15, l = [a0, a1, a2, a3, a4, a5, a6, a7, a8, a9, a10, a11, a12, a13, a14, a15] := by
  match l, h with
  | [a0, a1, a2, a3, a4, a5, a6, a7, a8, a9, a10, a11, a12, a13, a14, a15], _ => exact ⟨a0, a1, a2, a3, a4, a5, a6, a7, a8, a9, a10, a11, a12, a13, a14, a15, rfl⟩

theorem build6 (l : List Int) (n : Int) (hl : l.length = 16) (w : World) : (Instr.build 40 #[(0, A6 l), (1, .int .i64 n)]).run Tryd.prog w = .ok (P6 l n) w := by
  obtain ⟨a0, a1, a2, a3, a4, a5, a6, a7, a8, a9, a10, a11, a12, a13, a14, a15, rfl⟩ := six16 hl
  exact run_build w _ _ _ (by kernel_rfl)

theorem load6 {w : World} {b o : Nat} {l : List Int} (hl : l.length = 16) (h : CellsAt w b o (u8s l)) : (Instr.loadAt 31 (.pointer (some ⟨b, o, none⟩))).run Tryd.prog w = .ok (A6 l) w :=
  agg_load Tryd.isAgg31 Tryd.sizeOf31 (by rw [u8s_length, hl]) h
theorem loadP6 {w : World} {b o : Nat} {l : List Int} {n : Int} (hl : l.length = 16) (h : CellsAt w b o (cp6 l n)) : (Instr.loadAt 40 (.pointer (some ⟨b, o, none⟩))).run Tryd.prog w = .ok (P6 l n) w :=
  agg_load Tryd.isAgg40 Tryd.sizeOf40 (cp6_length l n hl) h
theorem loadVarP6 {w : World} {b o : Nat} {l : List Int} {n : Int} (hl : l.length = 16) (h : CellsAt w b o (cp6 l n)) : (loadVar 40 ⟨b, o, none⟩).run Tryd.prog w = .ok (P6 l n) w :=
  agg_loadVar Tryd.isAgg40 Tryd.sizeOf40 (cp6_length l n hl) h

theorem eq_arr16 (d : Nat) (zs ys : List Int) (h : FitB zs) (g : FitB ys) (hl : zs.length = 16) (gl : ys.length = 16) (W : World) :
    (Op.equalIn (d + 2) 31 (A6 zs) (A6 ys)).run Tryd.prog W = .ok (decide (zs = ys)) W := by
  have := run_equalIn_bytes (P := Tryd.prog) W d 31 5 16 Tryd.underlying31 Tryd.underlying5 (fun w => by simp [go_sem]) (zs.map (fun z => UInt8.ofNat z.toNat)) (ys.map (fun z => UInt8.ofNat z.toNat)) (by simpa using hl) (by simpa using gl)
  rw [bytes_inj zs ys h g] at this
  have e1 := cells_back zs h
  have e2 := cells_back ys g
  unfold A6 u8s
  rw [← e1, ← e2]
  exact this

/-- A box for a prefix, and its two parts. -/
theorem CellsAt.pfx {w : World} {b : Nat} {l : List Int} {n : Int} {t : TypeId} (hl : l.length = 16) (h : w.heap[b]? = some (.cells (cp6 l n).toArray t)) : CellsAt w b 0 (cp6 l n) ∧ CellsAt w b 0 (u8s l) ∧ w.cell? ⟨b, 16, none⟩ = some (.int .i64 n) := by
  have h1 : CellsAt w b 0 (cp6 l n) := CellsAt.of_blk h
  refine ⟨h1, CellsAt.fst h1, ?_⟩
  have := h1 16 (.int .i64 n) (by have : (u8s l).length = 16 := by rw [u8s_length, hl]
                                  simp [cp6, this])
  simpa using this
theorem cp6_take (l : List Int) (n : Int) (hl : l.length = 16) : List.take 16 (cp6 l n) = u8s l := by
  have : (u8s l).length = 16 := by rw [u8s_length, hl]
  unfold cp6
  rw [List.take_append_of_le_length (by omega), List.take_of_length_le (by omega)]
theorem cp6_get (l : List Int) (n : Int) (hl : l.length = 16) : (cp6 l n)[16]? = some (Value.int .i64 n) := by
  have : (u8s l).length = 16 := by rw [u8s_length, hl]
  simp [cp6, this]
theorem cp6_fst (l : List Int) (n : Int) (hl : l.length = 16) : (cp6 l n).toArray.extract 0 16 = (u8s l).toArray := by
  have : (u8s l).length = 16 := by rw [u8s_length, hl]
  apply Array.ext'
  simp [cp6, this]
theorem cp6_snd (l : List Int) (n : Int) (hl : l.length = 16) : (cp6 l n).toArray[16]? = some (Value.int .i64 n) := by
  have : (u8s l).length = 16 := by rw [u8s_length, hl]
  simp [cp6, this]

set_option maxHeartbeats 1000000 in
set_option maxRecDepth 100000 in
theorem eqP6 (d : Nat) (zs ys : List Int) (n m : Int) (h : FitB zs) (g : FitB ys) (hl : zs.length = 16) (gl : ys.length = 16) (w : World) :
    (Op.equalIn (d + 3) 40 (P6 zs n) (P6 ys m)).run Tryd.prog w = .ok (decide (zs = ys) && (n == m)) w := by
  have h1 := eq_arr16 d zs ys h g hl gl
  have p1 := cp6_fst zs n hl
  have p2 := cp6_fst ys m gl
  have p3 := cp6_snd zs n hl
  have p4 := cp6_snd ys m gl
  have h2 : ∀ W, (Op.equalIn (d + 2) 3 (.int .i64 n) (.int .i64 m)).run Tryd.prog W = .ok (n == m) W := fun W => by simp [Op.equalIn, go_sem]
  unfold P6
  generalize (cp6 zs n).toArray = x at *
  generalize (cp6 ys m).toArray = y at *
  unfold A6 at h1
  generalize (u8s zs).toArray = u at *
  generalize (u8s ys).toArray = v at *
  have hstd : Tryd.prog.stoodInHeld 40 = false := by kernel_rfl
  show (Op.equalIn ((d + 2) + 1) _ _ _).run Tryd.prog w = _
  rw [Op.equalIn]
  generalize Op.equalIn (d + 2) = E at *
  generalize decide (zs = ys) = q at *
  generalize (n == m) = r at *
  cases q
  · simp [go_sem, hstd, p1, p2, p3, p4, h1, h2]
  · cases r <;> simp [go_sem, hstd, p1, p2, p3, p4, h1, h2]

theorem eqlP6 (zs ys : List Int) (n m : Int) (h : FitB zs) (g : FitB ys) (hl : zs.length = 16) (gl : ys.length = 16) (w : World) :
    (binOp .eql 40 (P6 zs n) (P6 ys m)).run Tryd.prog w = .ok (.bool (decide (zs = ys) && (n == m))) w := by
  have := eqP6 9997 zs ys n m h g hl gl w
  simp only [binOp, Op.equal, Op.maxDepth]
  simp [this]
theorem neqP6 (zs ys : List Int) (n m : Int) (h : FitB zs) (g : FitB ys) (hl : zs.length = 16) (gl : ys.length = 16) (w : World) :
    (binOp .neq 40 (P6 zs n) (P6 ys m)).run Tryd.prog w = .ok (.bool (!(decide (zs = ys) && (n == m)))) w := by
  have := eqP6 9997 zs ys n m h g hl gl w
  simp only [binOp, Op.equal, Op.maxDepth]
  simp [this]
theorem gdP6 (b : BinOp) (x y : Operand) (u v : Array Value) (w : World) : (eqGuard b 40 x y (.agg u) (.agg v)).run Tryd.prog w = .ok () w := by
  have he : Tryd.prog.eqGuardType Tryd.prog.depth 40 = false := by kernel_rfl
  cases b <;> simp [eqGuard, go_sem, he]

/-- A block for a prefix that is open. -/
structure Slot6 (w : World) (R : Nat) : Prop where
  open' : ∀ i, w.frozen? ⟨R, i, none⟩ = false
  some' : ∀ i, i < 17 → (w.cell? ⟨R, i, none⟩).isSome = true
theorem Slot6.zero {w : World} {R : Nat} (h : w.heap[R]? = some (Obj.cells #[.int .u8 0, .int .u8 0, .int .u8 0, .int .u8 0, .int .u8 0, .int .u8 0, .int .u8 0, .int .u8 0, .int .u8 0, .int .u8 0, .int .u8 0, .int .u8 0, .int .u8 0, .int .u8 0, .int .u8 0, .int .u8 0, .int .i64 0] 40)) : Slot6 w R :=
  ⟨fun i => by simp [World.frozen?, h], fun i hi => by simp [World.cell?, h, hi]⟩
theorem Slot6.put {w : World} {R : Nat} (h : Slot6 w R) (l : List Int) (n : Int) (hl : l.length = 16) :
    ∃ w3, (Instr.storeAt 40 (.pointer (some ⟨R, 0, none⟩)) (P6 l n)).run Tryd.prog w = .ok () w3 ∧ (loadVar 40 ⟨R, 0, none⟩).run Tryd.prog w3 = .ok (P6 l n) w3 ∧ (∀ B a, B ≤ R → Below B a w → Below B a w3) ∧ CellsAt w3 R 0 (cp6 l n) := by
  have hcs : CellsAt (w.setCells R 0 (cp6 l n)) R 0 (cp6 l n) := CellsAt.stored _ (fun j hj => by rw [cp6_length _ _ hl] at hj; simpa using h.some' j hj)
  refine ⟨w.setCells R 0 (cp6 l n), agg_store Tryd.sizeOf40 (cp6_length _ _ hl) (cp6_one _ _) (fun j hj => by rw [cp6_length _ _ hl] at hj; simpa using h.some' j hj) h.open', loadVarP6 hl hcs, fun B a hB hb => Below.sets hB _ 0 _ hb, hcs⟩
theorem zero6 : P6 (List.replicate 16 0) 0 = .agg #[.int .u8 0, .int .u8 0, .int .u8 0, .int .u8 0, .int .u8 0, .int .u8 0, .int .u8 0, .int .u8 0, .int .u8 0, .int .u8 0, .int .u8 0, .int .u8 0, .int .u8 0, .int .u8 0, .int .u8 0, .int .u8 0, .int .i64 0] := by kernel_rfl
theorem buildZ6 (w : World) : (Instr.build 40 #[]).run Tryd.prog w = .ok (P6 (List.replicate 16 0) 0) w := run_build w _ _ _ (by kernel_rfl)

end Go.Proofs.YtlpbffcijhgelaaDoor

namespace Go.Proofs.YtlpbffcijhgelaaDoor
open Go Go.RowKit
set_option linter.unusedVariables false
set_option linter.unusedSimpArgs false

theorem blankL_get (zs : List Int) (n : Int) (k i : Nat) : (blankL zs n k)[i]? = if i < k then (zs[i]?).map (fun z => bl z (n - 8 * i)) else zs[i]? := by
  induction k with
  | zero => simp [blankL]
  | succ k ih =>
    simp only [blankL]
    by_cases e : i = k
    · subst e
      rw [if_pos (by omega)]
      by_cases hi : i < zs.length
      · rw [List.getElem?_set_self (by simpa using hi)]
        have e2 : (blankL zs n i)[i]? = zs[i]? := by rw [ih, if_neg (by omega)]
        rw [e2, List.getElem?_eq_getElem hi]
        rfl
      · rw [List.getElem?_eq_none (by simpa using hi), List.getElem?_eq_none (by omega)]
        rfl
    · rw [List.getElem?_set_ne (by omega), ih]
      by_cases hi : i < k
      · rw [if_pos hi, if_pos (by omega)]
      · rw [if_neg hi, if_neg (by omega)]
theorem blankL_all (zs : List Int) (n : Int) : blankL zs n zs.length = blR n zs := by
  apply List.ext_getElem?
  intro i
  rw [blankL_get]
  unfold blR
  rw [List.getElem?_mapIdx]
  by_cases h : i < zs.length
  · rw [if_pos h]
  · rw [if_neg h, List.getElem?_eq_none (by omega)]
    rfl
theorem blR_length (n : Int) (l : List Int) : (blR n l).length = l.length := by simp [blR]
theorem blR_fit {n : Int} {l : List Int} (h : FitB l) : FitB (blR n l) := by
  intro z hz
  unfold blR at hz
  rw [List.mem_mapIdx] at hz
  obtain ⟨i, hi, rfl⟩ := hz
  exact bl_fit _ _ (h _ (List.getElem_mem hi))

theorem OwnG.cells {w : World} {b : Nat} {l : List Int} (h : OwnG w b l) : CellsAt w b 0 (u8s l) := by
  intro j v hj
  unfold u8s at hj
  rw [List.getElem?_map] at hj
  cases hz : l[j]? with
  | none => simp [hz] at hj
  | some z =>
    simp [hz] at hj
    subst hj
    have := h.cell j (List.getElem?_eq_some_iff.1 hz).1
    rw [hz] at this
    simpa using this
theorem OwnG.of_blk {w : World} {b : Nat} {l : List Int} {t : TypeId} (h : w.heap[b]? = some (.cells (u8s l).toArray t)) : OwnG w b l := by
  refine ⟨⟨_, _, h⟩, fun j hj => ?_⟩
  simp [World.cell?, h, A6, Value.cells, u8s, hj]

set_option maxHeartbeats 2000000 in
set_option maxRecDepth 100000 in
theorem cut6_calls (l : List Int) (n : Int) (w : World) (hf : FitB l) (hl : l.length = 16) (hn : 0 ≤ n ∧ n ≤ 128) :
    Calls Tryd.prog 70 #[A6 l, .int .i64 n] w fun e w' => e = .returned (P6 (blR n l) n) ∧ Below w.heap.size w w' := by
  have hb0 : (w.alloc (.cells (u8s l).toArray 31)).heap[w.heap.size]? = some (.cells (u8s l).toArray 31) := blk_new _ _
  go_enter Tryd.func70, Tryd.ntmps70
  go_wp2_with fail
  generalize hz : Obj.cells #[.int .u8 0, .int .u8 0, .int .u8 0, .int .u8 0, .int .u8 0, .int .u8 0, .int .u8 0, .int .u8 0, .int .u8 0, .int .u8 0, .int .u8 0, .int .u8 0, .int .u8 0, .int .u8 0, .int .u8 0, .int .u8 0, .int .i64 0] 40 = zo
  have hb1 := blk_alloc hb0 zo
  have hR := blk_new (w.alloc (.cells (u8s l).toArray 31)) zo
  have hB : Below w.heap.size w ((w.alloc (.cells (u8s l).toArray 31)).alloc zo) := ((Below.refl _ w).alloc (Nat.le_refl _) _).alloc (by simp) _
  rw [World.size_alloc] at hR
  have hbl := blank_calls w.heap.size 16 l n ((w.alloc (.cells (u8s l).toArray 31)).alloc zo) hf (by omega) hn (OwnG.of_blk hb1)
  rw [hl] at hbl
  refine hbl.mono ?_
  rintro e w2 ⟨rfl, hG2, hO⟩
  have hR2 := (hO.other (w.heap.size + 1) (by omega)).trans hR
  have hB2 := hB.trans (hO.below (Nat.le_refl _))
  rw [← hl, blankL_all] at hG2
  have hfz : ∀ i, w2.frozen? ⟨w.heap.size + 1, i, none⟩ = false := fun i => by rw [← hz] at hR2; simp [World.frozen?, hR2]
  have hsome : ∀ i, i < 17 → (w2.cell? ⟨w.heap.size + 1, i, none⟩).isSome = true := fun i hi => by rw [← hz] at hR2; simp [World.cell?, hR2, hi]
  have hlen : (blR n l).length = 16 := by rw [blR_length, hl]
  have hld := load6 hlen hG2.cells
  have hbu := build6 (blR n l) n hlen
  have hst := agg_store (t := 40) (w := w2) (b := w.heap.size + 1) (o := 0) (vs := cp6 (blR n l) n) Tryd.sizeOf40 (cp6_length _ _ hlen) (cp6_one _ _) (fun j hj => by rw [cp6_length _ _ hlen] at hj; simpa using hsome j hj) hfz
  have hcs : CellsAt (w2.setCells (w.heap.size + 1) 0 (cp6 (blR n l) n)) (w.heap.size + 1) 0 (cp6 (blR n l) n) := CellsAt.stored _ (fun j hj => by rw [cp6_length _ _ hlen] at hj; simpa using hsome j hj)
  have hB3 : Below w.heap.size w (w2.setCells (w.heap.size + 1) 0 (cp6 (blR n l) n)) := Below.sets (by omega) _ 0 _ hB2
  have hres := loadVarP6 hlen hcs
  generalize w2.setCells (w.heap.size + 1) 0 (cp6 (blR n l) n) = w3 at *
  clear hG2 hO hR2 hR hb1 hb0 hz hsome hfz hB hbl hcs
  generalize hx : blR n l = x at *
  have HX : Hid _ := hx
  have HL : Hid _ := hld
  have HU : Hid _ := hbu
  have HS : Hid _ := hst
  have HR : Hid _ := hres
  clear hx hld hbu hst hres
  go_wp2_with first
    | ((with_reducible show wpList _ _ _ _ _ _); refine arm_load rfl (.tmp 2) 31 rfl rfl HL.out ?_)
    | ((with_reducible show wpList _ _ _ _ _ _); refine arm_build rfl 40 [(0, .tmp 8), (1, .tmp 9)] rfl rfl (HU.out _) ?_)
    | ((with_reducible show wpList _ _ _ _ _ _); refine arm_store rfl (.tmp 4) (.tmp 10) 40 rfl rfl rfl HS.out ?_)
  refine bodyPost_ret (res_cell1 rfl rfl HR.out) rfl ?_
  refine ⟨?_, hB3⟩
  rw [HX.out]

end Go.Proofs.YtlpbffcijhgelaaDoor

namespace Go.Proofs.YtlpbffcijhgelaaDoor
open Go Go.RowKit
set_option linter.unusedVariables false
set_option linter.unusedSimpArgs false

set_option maxHeartbeats 2000000 in
set_option maxRecDepth 100000 in
theorem Cut6_yes (l : List Int) (n : Int) (w : World) (hf : FitB l) (hl : l.length = 16) (hn : 0 ≤ n ∧ n ≤ 128) :
    Calls Tryd.prog 44 #[A6 l, .int .i64 n] w fun e w' => e = .returned (.tuple #[P6 (blR n l) n, .int .i64 0]) ∧ Below w.heap.size w w' := by
  have hlen : (blR n l).length = 16 := by rw [blR_length, hl]
  have hld : ∀ zo, (Instr.loadAt 31 (.pointer (some ⟨w.heap.size, 0, none⟩))).run Tryd.prog ((w.alloc (.cells (u8s l).toArray 31)).alloc zo) = .ok (A6 l) ((w.alloc (.cells (u8s l).toArray 31)).alloc zo) := fun zo => load6 hl (CellsAt.of_blk (blk_alloc (blk_new _ _) zo))
  have hc := fun w => cut6_calls l n w hf hl hn
  have HC : Hid _ := hc
  have HL : Hid _ := hld
  have HB : Hid (∀ zo, Below w.heap.size w ((w.alloc (.cells (u8s l).toArray 31)).alloc zo)) := fun zo => ((Below.refl _ w).alloc (Nat.le_refl _) _).alloc (by simp) _
  have HR : Hid (∀ zo, ((w.alloc (.cells (u8s l).toArray 31)).alloc zo).heap[w.heap.size + 1]? = some zo) := fun zo => by
    have := blk_new (w.alloc (.cells (u8s l).toArray 31)) zo
    rwa [World.size_alloc] at this
  clear hc hld
  go_enter Tryd.func44, Tryd.ntmps44
  go_wp2_with ((with_reducible show wpList _ _ _ _ _ _); refine arm_load rfl (.tmp 2) 31 rfl rfl (HL.out _) ?_)
  refine Calls.mono (HC.out _) ?_
  rintro e w2 ⟨rfl, hB2⟩
  have hslot := Slot6.zero (blk_on (HR.out _) hB2)
  have hBB := (HB.out _).trans (hB2.mono (HB.out _).size)
  obtain ⟨w3, hst, hres, hbel, _⟩ := hslot.put (blR n l) n hlen
  have hB3 := hbel w.heap.size w (by omega) hBB
  have HS : Hid _ := hst
  have HE : Hid _ := hres
  clear hst hres hslot hbel HC HL HB HR hB2
  go_wp2_with ((with_reducible show wpList _ _ _ _ _ _); refine arm_store rfl _ _ 40 rfl rfl rfl HS.out ?_)
  refine bodyPost_ret (res_cell2 rfl rfl HE.out) rfl ?_
  exact ⟨rfl, hB3⟩

set_option maxHeartbeats 2000000 in
set_option maxRecDepth 100000 in
theorem Cut6_no (l : List Int) (n : Int) (w : World) (hn : n < 0 ∨ 128 < n) (hb : -9223372036854775808 ≤ n ∧ n ≤ 9223372036854775807) :
    Calls Tryd.prog 44 #[A6 l, .int .i64 n] w fun e w' => e = .returned (.tuple #[P6 (List.replicate 16 0) 0, .int .i64 5]) ∧ Below w.heap.size w w' := by
  have HR : Hid (∀ zo, ((w.alloc (.cells (u8s l).toArray 31)).alloc zo).heap[w.heap.size + 1]? = some zo) := fun zo => by
    have := blk_new (w.alloc (.cells (u8s l).toArray 31)) zo
    rwa [World.size_alloc] at this
  have HB : Hid (∀ zo, Below w.heap.size w ((w.alloc (.cells (u8s l).toArray 31)).alloc zo)) := fun zo => ((Below.refl _ w).alloc (Nat.le_refl _) _).alloc (by simp) _
  obtain ⟨w3, hst, hres, hbel, _⟩ := (Slot6.zero (HR.out _)).put (List.replicate 16 0) 0 rfl
  have hB3 := hbel w.heap.size w (by omega) (HB.out _)
  have hbu := buildZ6
  have HS : Hid _ := hst
  have HE : Hid _ := hres
  have HU : Hid _ := hbu
  clear hst hres hbel hbu HR HB
  have ht : (decide (n < 0) || decide (128 < n)) = true := by rcases hn with h | h <;> simp [h]
  go_enter Tryd.func44, Tryd.ntmps44
  rcases hn with hn | hn
  all_goals
    go_wp2_with first
      | ((with_reducible show wpList _ _ _ _ _ _); refine arm_build rfl 40 [] rfl rfl (HU.out _) ?_)
      | ((with_reducible show wpList _ _ _ _ _ _); refine arm_store rfl _ _ 40 rfl rfl rfl HS.out ?_)
    refine bodyPost_ret (res_cell2 rfl rfl HE.out) rfl ?_
    exact ⟨rfl, hB3⟩

end Go.Proofs.YtlpbffcijhgelaaDoor

namespace Go.Proofs.YtlpbffcijhgelaaDoor
open Go Go.RowKit
set_option linter.unusedVariables false
set_option linter.unusedSimpArgs false

def okP6 (l : List Int) (n : Int) : Bool := decide (0 ≤ n ∧ n ≤ 128) && decide (l = blR n l)

set_option maxHeartbeats 2000000 in
set_option maxRecDepth 100000 in
theorem Check6_yes (l : List Int) (n : Int) (w : World) (hf : FitB l) (hl : l.length = 16) (hn : 0 ≤ n ∧ n ≤ 128) :
    Calls Tryd.prog 46 #[P6 l n] w fun e w' => e = .returned (.int .i64 (if okP6 l n then 0 else 22)) ∧ Below w.heap.size w w' := by
  have hok : okP6 l n = decide (l = blR n l) := by simp [okP6, hn]
  have hlen : (blR n l).length = 16 := by rw [blR_length, hl]
  have hb0 := blk_new w (.cells (cp6 l n).toArray 40)
  obtain ⟨c1, c2, c3⟩ := CellsAt.pfx hl hb0
  have hcut := fun w => Cut6_yes l n w hf hl hn
  have hne : ∀ W, (Op.equalIn 9999 31 (.agg (u8s l).toArray) (.agg (u8s (blR n l)).toArray)).run Tryd.prog W = .ok (okP6 l n) W := fun W => by rw [hok]; exact eq_arr16 9997 l (blR n l) hf (blR_fit hf) hl hlen W
  have tk1 := cp6_take l n hl
  have tk2 := cp6_take (blR n l) n hlen
  have sn1 := cp6_get l n hl
  have sn2 := cp6_get (blR n l) n hlen
  have HL : Hid _ := load6 hl c2
  have HC : Hid _ := hcut
  have HB : Hid _ := (Below.refl w.heap.size w).alloc (Nat.le_refl _) (.cells (cp6 l n).toArray 40)
  have H0 : Hid _ := hb0
  clear c1 c2 hcut hb0 hok
  generalize okP6 l n = ok at *
  go_enter Tryd.func46, Tryd.ntmps46
  go_wp2_with ((with_reducible show wpList _ _ _ _ _ _); refine arm_load rfl _ 31 rfl rfl HL.out ?_)
  refine Calls.mono (HC.out _) ?_
  rintro e w2 ⟨rfl, hB2⟩
  have hp := blk_on H0.out hB2
  have hBB := HB.out.trans (hB2.mono HB.out.size)
  have hge := hBB.size
  have hlt : w.heap.size < w2.heap.size := Nat.lt_of_lt_of_le (by simp) hB2.size
  have hslot := Slot6.zero (blk_new w2 _)
  obtain ⟨w3, hst, hres, hbel, _⟩ := hslot.put (blR n l) n hlen
  have hB3 := hbel w.heap.size w hge (hBB.alloc hge _)
  have hB3' := hbel w2.heap.size w2 (Nat.le_refl _) ((Below.refl _ w2).alloc (Nat.le_refl _) _)
  have HP : Hid _ := loadP6 hl (CellsAt.pfx hl (blk_on hp hB3')).1
  have hq : (Instr.loadAt 40 (.pointer (some ⟨w2.heap.size, 0, none⟩))).run Tryd.prog w3 = .ok (P6 (blR n l) n) w3 := by simpa [Instr.loadAt, Instr.sureAddr] using hres
  have HQ : Hid _ := hq
  clear hq
  have HS : Hid _ := hst
  clear hp HC H0 HB hB2 HL c3 hslot hst hres hbel hB3' hBB
  generalize hx : blR n l = x at *
  have HX : Hid _ := hx
  clear hx
  cases ok
  all_goals
    go_wp2_with first
      | ((with_reducible show wpList _ _ _ _ _ _); refine arm_store rfl _ _ 40 rfl rfl rfl HS.out ?_)
      | ((with_reducible show wpList _ _ _ _ _ _); refine arm_load rfl (.tmp 1) 40 rfl rfl HP.out ?_)
      | ((with_reducible show wpList _ _ _ _ _ _); refine arm_load rfl (.tmp 3) 40 rfl rfl HQ.out ?_)
    go_ret
    exact ⟨rfl, hB3⟩

set_option maxHeartbeats 2000000 in
set_option maxRecDepth 100000 in
theorem Check6_no (l : List Int) (n : Int) (w : World) (hf : FitB l) (hl : l.length = 16) (hn : n < 0 ∨ 128 < n) (hb : -9223372036854775808 ≤ n ∧ n ≤ 9223372036854775807) :
    Calls Tryd.prog 46 #[P6 l n] w fun e w' => e = .returned (.int .i64 22) ∧ Below w.heap.size w w' := by
  have hlen : (List.replicate 16 (0 : Int)).length = 16 := rfl
  have hb0 := blk_new w (.cells (cp6 l n).toArray 40)
  obtain ⟨c1, c2, c3⟩ := CellsAt.pfx hl hb0
  have hcut := fun w => Cut6_no l n w hn hb
  generalize List.replicate 16 (0 : Int) = x at *
  have HL : Hid _ := load6 hl c2
  have HC : Hid _ := hcut
  have HB : Hid _ := (Below.refl w.heap.size w).alloc (Nat.le_refl _) (.cells (cp6 l n).toArray 40)
  clear c1 c2 hcut hb0
  go_enter Tryd.func46, Tryd.ntmps46
  go_wp2_with ((with_reducible show wpList _ _ _ _ _ _); refine arm_load rfl _ 31 rfl rfl HL.out ?_)
  refine Calls.mono (HC.out _) ?_
  rintro e w2 ⟨rfl, hB2⟩
  have hBB := HB.out.trans (hB2.mono HB.out.size)
  have hge := hBB.size
  have hslot := Slot6.zero (blk_new w2 _)
  obtain ⟨w3, hst, hres, hbel, _⟩ := hslot.put x 0 hlen
  have hB3 := hbel w.heap.size w hge (hBB.alloc hge _)
  have HS : Hid _ := hst
  clear HC HB hB2 HL c3 hslot hst hres hbel hBB
  go_wp2_with ((with_reducible show wpList _ _ _ _ _ _); refine arm_store rfl _ _ 40 rfl rfl rfl HS.out ?_)
  go_ret
  exact ⟨rfl, hB3⟩

theorem Check6_calls (l : List Int) (n : Int) (w : World) (hf : FitB l) (hl : l.length = 16) (hb : -9223372036854775808 ≤ n ∧ n ≤ 9223372036854775807) :
    Calls Tryd.prog 46 #[P6 l n] w fun e w' => e = .returned (.int .i64 (if okP6 l n then 0 else 22)) ∧ Below w.heap.size w w' := by
  by_cases hn : 0 ≤ n ∧ n ≤ 128
  · exact Check6_yes l n w hf hl hn
  · have hok : okP6 l n = false := by unfold okP6; rw [decide_eq_false hn, Bool.false_and]
    rw [hok]
    exact Check6_no l n w hf hl (by omega) hb

end Go.Proofs.YtlpbffcijhgelaaDoor

namespace Go.Proofs.YtlpbffcijhgelaaDoor
open Go Go.RowKit
set_option linter.unusedVariables false
set_option linter.unusedSimpArgs false

def cov6 (l : List Int) (n : Int) (k : List Int) (m : Int) : Bool := decide (n ≤ m) && decide (l = blR n k)
def both6 (l : List Int) (n : Int) (k : List Int) (m : Int) : Bool := okP6 l n && okP6 k m

theorem two_new (w : World) (o1 o2 : Obj) {w' : World} (hb : Below ((w.alloc o1).alloc o2).heap.size ((w.alloc o1).alloc o2) w') :
    Below w.heap.size w w' ∧ w'.heap[w.heap.size]? = some o1 ∧ w'.heap[w.heap.size + 1]? = some o2 := by
  have e1 := blk_on (blk_alloc (blk_new w o1) o2) hb
  have e2 := blk_on (blk_new (w.alloc o1) o2) hb
  rw [World.size_alloc] at e2
  have hB : Below w.heap.size w ((w.alloc o1).alloc o2) := ((Below.refl _ w).alloc (Nat.le_refl _) _).alloc (by simp) _
  exact ⟨hB.trans (hb.mono hB.size), e1, e2⟩

/-- A prefix that lies in a box: its parts, in every world above. -/
theorem Hi.pfx {w : World} {b : Nat} {l : List Int} {n : Int} {t : TypeId} (hl : l.length = 16) (h : w.heap[b]? = some (.cells (cp6 l n).toArray t)) :
    (∀ x : Hi w, (Instr.loadAt 40 (.pointer (some ⟨b, 0, none⟩))).run Tryd.prog x.W = .ok (P6 l n) x.W) ∧
    (∀ x : Hi w, (Instr.loadAt 31 (.pointer (some ⟨b, 0, none⟩))).run Tryd.prog x.W = .ok (A6 l) x.W) ∧ (∀ x : Hi w, x.W.cell? ⟨b, 16, none⟩ = some (.int .i64 n)) :=
  ⟨fun x => loadP6 hl (CellsAt.pfx hl (Hi.blk h x)).1, fun x => load6 hl (CellsAt.pfx hl (Hi.blk h x)).2.1, fun x => (CellsAt.pfx hl (Hi.blk h x)).2.2⟩

set_option maxHeartbeats 4000000 in
set_option maxRecDepth 100000 in
theorem Cover6_in (l : List Int) (n : Int) (k : List Int) (m : Int) (w : World) (hf : FitB l) (hl : l.length = 16) (kf : FitB k) (kl : k.length = 16) (h1 : okP6 l n = true) (h2 : okP6 k m = true) :
    Calls Tryd.prog 42 #[P6 l n, P6 k m] w fun e w' => e = .returned (.tuple #[.bool (cov6 l n k m), .int .i64 0]) ∧ Below w.heap.size w w' := by
  have hn : 0 ≤ n ∧ n ≤ 128 := by simp [okP6] at h1; exact h1.1
  have hm : 0 ≤ m ∧ m ≤ 128 := by simp [okP6] at h2; exact h2.1
  have hlen : (blR n k).length = 16 := by rw [blR_length, kl]
  have c1 := fun w => Check6_calls l n w hf hl (by omega)
  have c2 := fun w => Check6_calls k m w kf kl (by omega)
  rw [h1] at c1
  rw [h2] at c2
  simp only [if_true] at c1 c2
  have hcut := fun w => cut6_calls k n w kf kl hn
  have heq : ∀ W, (Op.equalIn 9999 31 (.agg (u8s l).toArray) (.agg (u8s (blR n k)).toArray)).run Tryd.prog W = .ok (decide (l = blR n k)) W := fun W => eq_arr16 9997 l (blR n k) hf (blR_fit kf) hl hlen W
  have tk1 := cp6_take l n hl
  have tk2 := cp6_take (blR n k) n hlen
  have sn1 := cp6_get l n hl
  have sn2 := cp6_get (blR n k) n hlen
  have b0 := blk_alloc (blk_new w (.cells (cp6 l n).toArray 40)) (.cells (cp6 k m).toArray 40)
  have b1 := fun w' => @two_new w (.cells (cp6 l n).toArray 40) (.cells (cp6 k m).toArray 40) w'
  have HL : Hid _ := loadP6 hl (CellsAt.pfx hl b0).1
  have HC1 : Hid _ := c1
  have HC2 : Hid _ := c2
  have HCU : Hid _ := hcut
  have HB1 : Hid _ := b1
  clear c1 c2 hcut b0 b1 h1 h2
  unfold cov6
  generalize hdd : decide (n ≤ m) = dd at *
  generalize decide (l = blR n k) = bb at *
  generalize blR n k = x at *
  go_enter Tryd.func42, Tryd.ntmps42
  go_wp2_with ((with_reducible show wpList _ _ _ _ _ _); refine arm_load rfl _ 40 rfl rfl HL.out ?_)
  refine Calls.mono (HC1.out _) ?_
  rintro e w1 ⟨rfl, hb1⟩
  obtain ⟨hbl, bp, bq⟩ := HB1.out w1 hb1
  obtain ⟨lp, la, cp⟩ := Hi.pfx hl bp
  obtain ⟨mp, ma, cm⟩ := Hi.pfx kl bq
  have HQ : Hid _ := loadP6 kl (CellsAt.pfx kl bq).1
  have LP : Hid _ := lp
  have MA : Hid _ := ma
  clear HB1 HL HC1 bp bq hb1 lp la mp ma
  go_wp2_with ((with_reducible show wpList _ _ _ _ _ _); refine arm_load rfl _ 40 rfl rfl HQ.out ?_)
  refine Calls.mono (HC2.out _) ?_
  rintro e w2 ⟨rfl, hb2⟩
  obtain ⟨x2, rfl⟩ : ∃ x : Hi w1, w2 = x.W := ⟨⟨w2, hb2⟩, rfl⟩
  clear hb2 HQ HC2
  go_wp2_with fail
  cases dd <;> cases bb
  all_goals
    refine wp_region_up (by kernel_rfl) (by kernel_rfl) ?_
    repeat (first
      | go_big_quiet_skip
      | (go_big_quiet_want; refine hi_load (.tmp 2) 40 rfl rfl LP.out ?_; simp only [Act.put, List.setIfInBounds_toArray, List.set_cons_zero, List.set_cons_succ]; go_big_quiet_on)
      | (go_big_quiet_want; refine hi_load (.tmp 21) 31 rfl rfl MA.out ?_; simp only [Act.put, List.setIfInBounds_toArray, List.set_cons_zero, List.set_cons_succ]; go_big_quiet_on)
      | (go_big_quiet_want; go_big_quiet_op; first | go_big_quiet_on | go_big_quiet_call (first | (go_at_call 70; exact Hi.calls (HCU.out _)))))
    refine wpQuiet_nil ?_
    intro _ hw
    obtain ⟨y, rfl⟩ := hw
    go_wp2
    go_ret2
    exact ⟨rfl, hbl.trans (y.below.mono hbl.size)⟩

set_option maxHeartbeats 4000000 in
set_option maxRecDepth 100000 in
theorem Cover6_out (l : List Int) (n : Int) (k : List Int) (m : Int) (w : World) (hf : FitB l) (hl : l.length = 16) (kf : FitB k) (kl : k.length = 16) (hn : -9223372036854775808 ≤ n ∧ n ≤ 9223372036854775807) (hm : -9223372036854775808 ≤ m ∧ m ≤ 9223372036854775807) (hb : both6 l n k m = false) :
    Calls Tryd.prog 42 #[P6 l n, P6 k m] w fun e w' => e = .returned (.tuple #[.bool false, .int .i64 22]) ∧ Below w.heap.size w w' := by
  have c1 := fun w => Check6_calls l n w hf hl hn
  have c2 := fun w => Check6_calls k m w kf kl hm
  have b0 := blk_alloc (blk_new w (.cells (cp6 l n).toArray 40)) (.cells (cp6 k m).toArray 40)
  have b1 := fun w' => @two_new w (.cells (cp6 l n).toArray 40) (.cells (cp6 k m).toArray 40) w'
  have HL : Hid _ := loadP6 hl (CellsAt.pfx hl b0).1
  have HB1 : Hid _ := b1
  unfold both6 at hb
  cases h1 : okP6 l n
  · rw [h1] at c1
    have HC1 : Hid _ := c1
    clear b0 b1 c1 c2 h1 hb
    go_enter Tryd.func42, Tryd.ntmps42
    go_wp2_with ((with_reducible show wpList _ _ _ _ _ _); refine arm_load rfl _ 40 rfl rfl HL.out ?_)
    refine Calls.mono (HC1.out _) ?_
    rintro e w1 ⟨rfl, hb1⟩
    have hbl := (HB1.out w1 hb1).1
    go_wp2
    go_ret2
    exact ⟨rfl, hbl⟩
  · rw [h1, Bool.true_and] at hb
    rw [h1] at c1
    rw [hb] at c2
    have HC1 : Hid _ := c1
    have HC2 : Hid _ := c2
    clear b0 b1 c1 c2 h1 hb
    go_enter Tryd.func42, Tryd.ntmps42
    go_wp2_with ((with_reducible show wpList _ _ _ _ _ _); refine arm_load rfl _ 40 rfl rfl HL.out ?_)
    refine Calls.mono (HC1.out _) ?_
    rintro e w1 ⟨rfl, hb1⟩
    obtain ⟨hbl, bp, bq⟩ := HB1.out w1 hb1
    have HQ : Hid _ := loadP6 kl (CellsAt.pfx kl bq).1
    clear HB1 HL HC1 bp bq hb1
    go_wp2_with ((with_reducible show wpList _ _ _ _ _ _); refine arm_load rfl _ 40 rfl rfl HQ.out ?_)
    refine Calls.mono (HC2.out _) ?_
    rintro e w2 ⟨rfl, hb2⟩
    go_wp2
    go_ret2
    exact ⟨rfl, hbl.trans (hb2.mono hbl.size)⟩

theorem Cover6_calls (l : List Int) (n : Int) (k : List Int) (m : Int) (w : World) (hf : FitB l) (hl : l.length = 16) (kf : FitB k) (kl : k.length = 16) (hn : -9223372036854775808 ≤ n ∧ n ≤ 9223372036854775807) (hm : -9223372036854775808 ≤ m ∧ m ≤ 9223372036854775807) :
    Calls Tryd.prog 42 #[P6 l n, P6 k m] w fun e w' => e = .returned (.tuple #[.bool (both6 l n k m && cov6 l n k m), .int .i64 (if both6 l n k m then 0 else 22)]) ∧ Below w.heap.size w w' := by
  cases hb : both6 l n k m
  · exact Cover6_out l n k m w hf hl kf kl hn hm hb
  · have hb' := hb
    unfold both6 at hb'
    rw [Bool.and_eq_true] at hb'
    exact Cover6_in l n k m w hf hl kf kl hb'.1 hb'.2

end Go.Proofs.YtlpbffcijhgelaaDoor

namespace Go.Proofs.YtlpbffcijhgelaaDoor
open Go Go.RowKit
set_option linter.unusedVariables false
set_option linter.unusedSimpArgs false

theorem blR_all {l : List Int} (h : FitB l) (hl : l.length = 16) : blR 128 l = l := by
  apply List.ext_getElem?
  intro i
  unfold blR
  rw [List.getElem?_mapIdx]
  by_cases hi : i < l.length
  · rw [List.getElem?_eq_getElem hi]
    have hz := h _ (List.getElem_mem hi)
    simp only [Option.map_some]
    congr 1
    unfold bl msk
    rw [show (min (max ((128 : Int) - 8 * i) 0) 8).toNat = 8 by omega]
    have e : (l[i].toNat &&& (255 - 255 / 2 ^ 8)) = l[i].toNat := by
      rw [show 255 - 255 / 2 ^ 8 = 2 ^ 8 - 1 from rfl, Nat.and_two_pow_sub_one_eq_mod]
      omega
    rw [e]
    omega
  · rw [List.getElem?_eq_none (by omega)]
    rfl
theorem ok128 {l : List Int} (h : FitB l) (hl : l.length = 16) : okP6 l 128 = true := by
  unfold okP6
  rw [decide_eq_true (by omega), Bool.true_and, decide_eq_true (blR_all h hl).symm]
def has6 (l : List Int) (n : Int) (k : List Int) : Bool := decide (blR n k = l)
theorem has6_cov {l k : List Int} {n : Int} (kf : FitB k) (kl : k.length = 16) : (both6 l n k 128 && cov6 l n k 128) = (okP6 l n && has6 l n k) ∧ both6 l n k 128 = okP6 l n := by
  have e : both6 l n k 128 = okP6 l n := by unfold both6; rw [ok128 kf kl, Bool.and_true]
  refine ⟨?_, e⟩
  rw [e]
  cases hok : okP6 l n
  · rfl
  · have hn : 0 ≤ n ∧ n ≤ 128 := by simp [okP6] at hok; exact hok.1
    unfold cov6 has6
    rw [decide_eq_true hn.2, Bool.true_and]
    congr 1
    rw [decide_eq_decide]
    exact ⟨Eq.symm, Eq.symm⟩

set_option maxHeartbeats 2000000 in
set_option maxRecDepth 100000 in
theorem Has6_calls (l : List Int) (n : Int) (k : List Int) (w : World) (hf : FitB l) (hl : l.length = 16) (kf : FitB k) (kl : k.length = 16) (hn : -9223372036854775808 ≤ n ∧ n ≤ 9223372036854775807) :
    Calls Tryd.prog 40 #[P6 l n, A6 k] w fun e w' => e = .returned (.tuple #[.bool (okP6 l n && has6 l n k), .int .i64 (if okP6 l n then 0 else 22)]) ∧ Below w.heap.size w w' := by
  have hs := has6_cov (l := l) (n := n) kf kl
  have hc : ∀ w : World, Calls Tryd.prog 42 #[P6 l n, P6 k 128] w fun e w' => e = .returned (.tuple #[.bool (okP6 l n && has6 l n k), .int .i64 (if okP6 l n then 0 else 22)]) ∧ Below w.heap.size w w' := by
    intro w
    have h := Cover6_calls l n k 128 w hf hl kf kl hn (by omega)
    rw [hs.1, hs.2] at h
    exact h
  generalize (okP6 l n && has6 l n k) = r1 at *
  generalize (if okP6 l n = true then (0 : Int) else 22) = r2 at *
  have b0 := blk_alloc (blk_new w (.cells (cp6 l n).toArray 40)) (.cells (u8s k).toArray 31)
  have b1 := blk_new (w.alloc (.cells (cp6 l n).toArray 40)) (.cells (u8s k).toArray 31)
  rw [World.size_alloc] at b1
  have hB : Below w.heap.size w ((w.alloc (.cells (cp6 l n).toArray 40)).alloc (.cells (u8s k).toArray 31)) := ((Below.refl _ w).alloc (Nat.le_refl _) _).alloc (by simp) _
  have HL : Hid _ := loadP6 hl (CellsAt.pfx hl b0).1
  have HK : Hid _ := load6 kl (CellsAt.of_blk b1)
  have HU : Hid _ := build6 k 128 kl
  have HC : Hid _ := hc
  have HB : Hid _ := hB
  clear hc hB hs b0 b1
  go_enter Tryd.func40, Tryd.ntmps40
  go_wp2_with first
    | ((with_reducible show wpList _ _ _ _ _ _); refine arm_load rfl (.tmp 2) 40 rfl rfl HL.out ?_)
    | ((with_reducible show wpList _ _ _ _ _ _); refine arm_load rfl (.tmp 3) 31 rfl rfl HK.out ?_)
    | ((with_reducible show wpList _ _ _ _ _ _); refine arm_build rfl 40 [(0, .tmp 7), (1, .const (.int .i64 128))] rfl rfl (HU.out _) ?_)
  refine Calls.mono (HC.out _) ?_
  rintro e w2 ⟨rfl, hB2⟩
  go_wp2
  go_ret2
  exact ⟨rfl, HB.out.trans (hB2.mono HB.out.size)⟩

end Go.Proofs.YtlpbffcijhgelaaDoor

namespace Go.Proofs.YtlpbffcijhgelaaDoor
open Go Go.RowKit
set_option linter.unusedVariables false
set_option linter.unusedSimpArgs false

theorem bitN_blR {l : List Int} (h : FitB l) (n i : Nat) (hi : i < 8 * l.length) : bitN (blR n l) i = if i < n then bitN l i else 0 := by
  unfold bitN blR
  have hlt : i / 8 < l.length := by omega
  rw [List.getElem?_mapIdx, List.getElem?_eq_getElem hlt]
  simp only [Option.map_some, Option.getD_some]
  rw [bk_bl _ _ _ (Nat.mod_lt _ (by decide)) (h _ (List.getElem_mem hlt))]
  by_cases c : i < n
  · rw [if_pos c, if_pos (by omega)]
  · rw [if_neg c, if_neg (by omega)]
theorem low_blR {l : List Int} (h : FitB l) (n : Nat) : lowB l n = decide (l = blR n l) := by
  unfold lowB
  rw [decide_eq_decide]
  constructor
  · intro g
    refine row_ext (by rw [blR_length]) h (blR_fit h) fun p hp => ?_
    rw [bitN_blR h n p hp]
    by_cases c : p < n
    · rw [if_pos c]
    · rw [if_neg c]; exact g p hp (by omega)
  · intro e i hi hni
    rw [e, bitN_blR h n i hi, if_neg (by omega)]
theorem clr_blR {l : List Int} (h : FitB l) (n : Nat) (hn : n ≤ 8 * l.length) : clrL l n (8 * l.length - n) = blR n l := by
  refine row_ext (by simp [blR_length]) (clrL_fit h _ _) (blR_fit h) fun p hp => ?_
  have hp' : p < 8 * l.length := by simpa using hp
  rw [bitN_clrL h _ _ _ (by omega), bitN_blR h n p hp']
  by_cases c : p < n
  · rw [if_neg (by omega), if_pos c]
  · rw [if_pos (by omega), if_neg c]

set_option maxHeartbeats 1000000 in
set_option maxRecDepth 100000 in
theorem Low6_calls (l : List Int) (n : Nat) (w : World) (hf : FitB l) (hl : l.length = 16) (hn : n ≤ 128) :
    Calls Tryd.prog 71 #[A6 l, .int .i64 n] w fun e w' => e = .returned (.bool (lowB l n)) ∧ Below w.heap.size w w' := by
  have hB := (Below.refl w.heap.size w).alloc (Nat.le_refl _) (.cells (u8s l).toArray 31)
  have hG : OwnG (w.alloc (.cells (u8s l).toArray 31)) w.heap.size l := OwnG.of_blk (blk_new _ _)
  have hc : ∀ j, j < 16 → (w.alloc (.cells (u8s l).toArray 31)).cell? ⟨w.heap.size, j, none⟩ = some (.int .u8 (l[j]?.getD 0)) := fun j hj => hG.cell j (by omega)
  have HC : Hid _ := hc
  have HB : Hid _ := hB
  clear hc hB hG
  go_enter Tryd.func71, Tryd.ntmps71
  go_wp2
  generalize w.alloc (.cells (u8s l).toArray 31) = w1 at *
  go_loopw [5] (fun i wr => ∃ k : Nat, n ≤ k ∧ k ≤ 128 ∧ i = .int .i64 k ∧ (∀ i, n ≤ i → i < k → bitN l i = 0) ∧ wr = w1) (fun i _ => 128 - (intOf i).toNat)
  case atStart => exact ⟨n, Nat.le_refl _, hn, rfl, fun i h1 h2 => by omega, rfl⟩
  case round =>
    obtain ⟨k, hk1, hk2, rfl, hal, rfl⟩ := hrel
    have HA : Hid _ := hal
    clear hal
    by_cases hlt : k < 128
    · have hcc := HC.out (k / 8) (by omega)
      have hfit := fit_at hf (k / 8)
      have hbit := lbit_u8 (l[k / 8]?.getD 0) (7 - k % 8) hfit.1 hfit.2
      have hbn : bitN l k = bk (l[k / 8]?.getD 0).toNat (7 - k % 8) := rfl
      have hb2 := bitN_lt l k
      have hyes : bitN l k = 0 → ∀ i, n ≤ i → i < k + 1 → bitN l i = 0 := fun h0 i h1 h2 => by
        by_cases c : i = k
        · rw [c]; exact h0
        · exact HA.out i h1 (by omega)
      have hno : bitN l k ≠ 0 → lowB l n = false := fun h0 => by
        unfold lowB
        exact decide_eq_false (fun h => h0 (h k (by omega) hk1))
      rw [← hbn] at hbit
      generalize l[k / 8]?.getD 0 = z at *
      generalize bitN l k = bb at *
      have HY : Hid _ := hyes
      have HN : Hid _ := hno
      clear hyes hno hbn HA
      have hbb : bb = 0 ∨ bb = 1 := by omega
      rcases hbb with rfl | rfl
      · go_wp2
        exact ⟨⟨k + 1, by omega, by omega, by simp, HY.out rfl, trivial⟩, by simp [intOf]; omega⟩
      · go_wp2
        go_ret
        rw [HN.out (by decide)]
        exact ⟨rfl, HB.out⟩
    · have hlow : lowB l n = true := by
        unfold lowB
        exact decide_eq_true (fun i hi hn' => HA.out i hn' (by omega))
      have HL : Hid _ := hlow
      clear hlow
      go_wp2
      go_ret
      rw [HL.out]
      exact ⟨rfl, HB.out⟩


set_option maxHeartbeats 2000000 in
set_option maxRecDepth 100000 in
theorem RCheck6_calls (l : List Int) (n : Int) (w : World) (hf : FitB l) (hl : l.length = 16) (hb : -9223372036854775808 ≤ n ∧ n ≤ 9223372036854775807) :
    Calls Tryd.prog 47 #[P6 l n] w fun e w' => e = .returned (.int .i64 (if okP6 l n then 0 else 22)) ∧ Below w.heap.size w w' := by
  have hb0 := blk_new w (.cells (cp6 l n).toArray 40)
  obtain ⟨c1, c2, c3⟩ := CellsAt.pfx hl hb0
  have hB := (Below.refl w.heap.size w).alloc (Nat.le_refl _) (.cells (cp6 l n).toArray 40)
  have HA : Hid _ := load6 hl c2
  clear c1 c2 hb0
  by_cases hn : 0 ≤ n ∧ n ≤ 128
  · obtain ⟨m, rfl⟩ := Int.eq_ofNat_of_zero_le hn.1
    have hlow := Low6_calls l m (w.alloc (.cells (cp6 l m).toArray 40)) hf hl (by omega)
    rw [low_blR hf] at hlow
    have hok : okP6 l m = decide (l = blR m l) := by
      unfold okP6
      rw [decide_eq_true hn, Bool.true_and]
    rw [hok]
    generalize decide (l = blR m l) = bb at *
    have HL : Hid _ := hlow
    have HB : Hid _ := hB
    clear hlow hB hok
    have q1 : decide ((m : Int) < 0) = false := by simp
    have q2 : decide ((128 : Int) < (m : Int)) = false := by simp; omega
    go_enter Tryd.func47, Tryd.ntmps47
    go_wp2_with ((with_reducible show wpList _ _ _ _ _ _); refine arm_load rfl _ 31 rfl rfl HA.out ?_)
    refine Calls.mono HL.out ?_
    rintro e w2 ⟨rfl, hB2⟩
    have hBB := HB.out.trans (hB2.mono HB.out.size)
    clear HL HB hB2
    cases bb
    all_goals
      go_wp2
      go_ret
      exact ⟨rfl, hBB⟩
  · have hok : okP6 l n = false := by unfold okP6; rw [decide_eq_false hn, Bool.false_and]
    rw [hok]
    clear hok
    have hn' : n < 0 ∨ 128 < n := by omega
    rcases hn' with hn' | hn'
    all_goals
      go_enter Tryd.func47, Tryd.ntmps47
      go_wp2
      go_ret
      exact ⟨rfl, hB⟩

end Go.Proofs.YtlpbffcijhgelaaDoor

namespace Go.Proofs.YtlpbffcijhgelaaDoor
open Go Go.RowKit
set_option linter.unusedVariables false
set_option linter.unusedSimpArgs false

set_option maxHeartbeats 4000000 in
set_option maxRecDepth 100000 in
theorem RCut6_yes (l : List Int) (n : Nat) (w : World) (hf : FitB l) (hl : l.length = 16) (hn : n ≤ 128) :
    Calls Tryd.prog 45 #[A6 l, .int .i64 n] w fun e w' => e = .returned (.tuple #[P6 (blR n l) n, .int .i64 0]) ∧ Below w.heap.size w w' := by
  have hlen : (blR n l).length = 16 := by rw [blR_length, hl]
  have HG : Hid (∀ zo, OwnG ((w.alloc (.cells (u8s l).toArray 31)).alloc zo) w.heap.size l) := fun zo => OwnG.of_blk (blk_alloc (blk_new _ _) zo)
  have HB : Hid (∀ zo, Below w.heap.size w ((w.alloc (.cells (u8s l).toArray 31)).alloc zo)) := fun zo => ((Below.refl _ w).alloc (Nat.le_refl _) _).alloc (by simp) _
  have HR : Hid (∀ zo, ((w.alloc (.cells (u8s l).toArray 31)).alloc zo).heap[w.heap.size + 1]? = some zo) := fun zo => by
    have := blk_new (w.alloc (.cells (u8s l).toArray 31)) zo
    rwa [World.size_alloc] at this
  have hend := clr_blR hf n (by omega)
  rw [hl, show 8 * 16 = 128 from rfl] at hend
  have HE : Hid _ := hend
  clear hend
  go_enter Tryd.func45, Tryd.ntmps45
  go_wp2
  have hG := HG.out (Obj.cells #[.int .u8 0, .int .u8 0, .int .u8 0, .int .u8 0, .int .u8 0, .int .u8 0, .int .u8 0, .int .u8 0, .int .u8 0, .int .u8 0, .int .u8 0, .int .u8 0, .int .u8 0, .int .u8 0, .int .u8 0, .int .u8 0, .int .i64 0] 40)
  have hB := HB.out (Obj.cells #[.int .u8 0, .int .u8 0, .int .u8 0, .int .u8 0, .int .u8 0, .int .u8 0, .int .u8 0, .int .u8 0, .int .u8 0, .int .u8 0, .int .u8 0, .int .u8 0, .int .u8 0, .int .u8 0, .int .u8 0, .int .u8 0, .int .i64 0] 40)
  have hR := HR.out (Obj.cells #[.int .u8 0, .int .u8 0, .int .u8 0, .int .u8 0, .int .u8 0, .int .u8 0, .int .u8 0, .int .u8 0, .int .u8 0, .int .u8 0, .int .u8 0, .int .u8 0, .int .u8 0, .int .u8 0, .int .u8 0, .int .u8 0, .int .i64 0] 40)
  clear HG HB HR
  generalize (w.alloc (.cells (u8s l).toArray 31)).alloc (Obj.cells #[.int .u8 0, .int .u8 0, .int .u8 0, .int .u8 0, .int .u8 0, .int .u8 0, .int .u8 0, .int .u8 0, .int .u8 0, .int .u8 0, .int .u8 0, .int .u8 0, .int .u8 0, .int .u8 0, .int .u8 0, .int .u8 0, .int .i64 0] 40) = w1 at *
  have HG : Hid _ := hG
  have HB : Hid _ := hB
  have HR : Hid _ := hR
  clear hG hB hR
  go_loopw [6] (fun i wr => ∃ k : Nat, n + k ≤ 128 ∧ i = .int .i64 (n + k : Nat) ∧ OwnG wr w.heap.size (clrL l n k) ∧ Only w.heap.size w1 wr) (fun i _ => 128 - (intOf i).toNat)
  case atStart => exact ⟨0, by omega, rfl, HG.out, Only.refl _ _⟩
  case round =>
    obtain ⟨k, hk, rfl, ho, hO⟩ := hrel
    by_cases hlt : n + k < 128
    · have hset : clrL l n (k + 1) = (clrL l n k).set ((n + k) / 8) ((setN ((clrL l n k)[(n + k) / 8]?.getD 0).toNat (7 - (n + k) % 8) 0 : Nat) : Int) := rfl
      have hfit := fit_at (clrL_fit hf n k) ((n + k) / 8)
      have hlen2 : (clrL l n k).length = 16 := by simp [hl]
      have hcc := ho.cell ((n + k) / 8) (by omega)
      have hop := ho.open ((n + k) / 8)
      have hos := ho.set ((n + k) / 8) (by omega)
      have han := an_one ((clrL l n k)[(n + k) / 8]?.getD 0) (7 - (n + k) % 8) (by omega) hfit
      have hwr := wrap_u8 (7 - (n + k) % 8) (by omega)
      have h256 := pow256 (7 - (n + k) % 8) (by omega)
      generalize hy : clrL l n (k + 1) = y at *
      generalize clrL l n k = x at *
      generalize x[(n + k) / 8]?.getD 0 = z at *
      generalize setN z.toNat (7 - (n + k) % 8) 0 = s at *
      generalize hK : n + k = K at *
      have HY : Hid _ := hy
      have HS : Hid _ := hset
      have HO : Hid _ := hos
      have HK : Hid _ := hK
      clear hy hset hos hK HE HG HB HR
      go_wp2
      go_region
      go_wp2
      refine ⟨⟨k + 1, by have := HK.out; omega, by have := HK.out; simp; omega, ?_, (hO.set _ _).drew⟩, by simp [intOf]; omega⟩
      rw [HY.out, HS.out]
      have ho2 := HO.out (s : Int)
      exact ⟨ho2.typed, ho2.cell⟩
    · obtain rfl : k = 128 - n := by omega
      have hke : n + (128 - n) = 128 := by omega
      rw [HE.out] at ho
      have hR2 := (hO.other (w.heap.size + 1) (by omega)).trans HR.out
      have hB2 := HB.out.trans (hO.below (Nat.le_refl _))
      have hslot := Slot6.zero hR2
      obtain ⟨w3, hst, hres, hbel, _⟩ := hslot.put (blR n l) n hlen
      have hB3 := hbel w.heap.size w (by omega) hB2
      have HL : Hid _ := load6 hlen ho.cells
      have HU : Hid _ := build6 (blR n l) n hlen
      have HS : Hid _ := hst
      have HEN : Hid _ := hres
      clear ho hR2 hO HE HR HB HG hst hres hslot hbel hB2
      rw [hke]
      clear hke
      go_wp2_with first
        | ((with_reducible show wpList _ _ _ _ _ _); refine arm_load rfl (.tmp 2) 31 rfl rfl HL.out ?_)
        | ((with_reducible show wpList _ _ _ _ _ _); refine arm_build rfl 40 [(0, .tmp 31), (1, .tmp 32)] rfl rfl (HU.out _) ?_)
        | ((with_reducible show wpList _ _ _ _ _ _); refine arm_store rfl (.tmp 4) (.tmp 33) 40 rfl rfl rfl HS.out ?_)
      refine bodyPost_ret (res_cell2 rfl rfl HEN.out) rfl ?_
      exact ⟨rfl, hB3⟩

set_option maxHeartbeats 2000000 in
set_option maxRecDepth 100000 in
theorem RCut6_no (l : List Int) (n : Int) (w : World) (hn : n < 0 ∨ 128 < n) (hb : -9223372036854775808 ≤ n ∧ n ≤ 9223372036854775807) :
    Calls Tryd.prog 45 #[A6 l, .int .i64 n] w fun e w' => e = .returned (.tuple #[P6 (List.replicate 16 0) 0, .int .i64 5]) ∧ Below w.heap.size w w' := by
  have HR : Hid (∀ zo, ((w.alloc (.cells (u8s l).toArray 31)).alloc zo).heap[w.heap.size + 1]? = some zo) := fun zo => by
    have := blk_new (w.alloc (.cells (u8s l).toArray 31)) zo
    rwa [World.size_alloc] at this
  have HB : Hid (∀ zo, Below w.heap.size w ((w.alloc (.cells (u8s l).toArray 31)).alloc zo)) := fun zo => ((Below.refl _ w).alloc (Nat.le_refl _) _).alloc (by simp) _
  obtain ⟨w3, hst, hres, hbel, _⟩ := (Slot6.zero (HR.out _)).put (List.replicate 16 0) 0 rfl
  have hB3 := hbel w.heap.size w (by omega) (HB.out _)
  have hbu := buildZ6
  have HS : Hid _ := hst
  have HE : Hid _ := hres
  have HU : Hid _ := hbu
  clear hst hres hbel hbu HR HB
  have ht : (decide (n < 0) || decide (128 < n)) = true := by rcases hn with h | h <;> simp [h]
  go_enter Tryd.func45, Tryd.ntmps45
  rcases hn with hn | hn
  all_goals
    go_wp2_with first
      | ((with_reducible show wpList _ _ _ _ _ _); refine arm_build rfl 40 [] rfl rfl (HU.out _) ?_)
      | ((with_reducible show wpList _ _ _ _ _ _); refine arm_store rfl _ _ 40 rfl rfl rfl HS.out ?_)
    refine bodyPost_ret (res_cell2 rfl rfl HE.out) rfl ?_
    exact ⟨rfl, hB3⟩

set_option maxHeartbeats 4000000 in
set_option maxRecDepth 100000 in
theorem RHas6_calls (l : List Int) (n : Int) (k : List Int) (w : World) (hf : FitB l) (hl : l.length = 16) (kf : FitB k) (kl : k.length = 16) (hb : -9223372036854775808 ≤ n ∧ n ≤ 9223372036854775807) :
    Calls Tryd.prog 41 #[P6 l n, A6 k] w fun e w' => e = .returned (.tuple #[.bool (okP6 l n && has6 l n k), .int .i64 (if okP6 l n then 0 else 22)]) ∧ Below w.heap.size w w' := by
  have hchk := fun w => RCheck6_calls l n w hf hl hb
  have b0 := blk_alloc (blk_new w (.cells (cp6 l n).toArray 40)) (.cells (u8s k).toArray 31)
  have b1 := fun w' => @two_new w (.cells (cp6 l n).toArray 40) (.cells (u8s k).toArray 31) w'
  have HL : Hid _ := loadP6 hl (CellsAt.pfx hl b0).1
  have HB1 : Hid _ := b1
  clear b0 b1
  cases hok : okP6 l n
  · simp only [hok] at hchk
    have HC : Hid _ := hchk
    clear hchk hok
    go_enter Tryd.func41, Tryd.ntmps41
    go_wp2_with ((with_reducible show wpList _ _ _ _ _ _); refine arm_load rfl (.tmp 2) 40 rfl rfl HL.out ?_)
    refine Calls.mono (HC.out _) ?_
    rintro e w2 ⟨rfl, hB2⟩
    have hbl := (HB1.out w2 hB2).1
    go_wp2
    go_ret2
    exact ⟨rfl, hbl⟩
  · simp only [hok] at hchk
    have hn : 0 ≤ n ∧ n ≤ 128 := by simp [okP6] at hok; exact hok.1
    obtain ⟨m, rfl⟩ := Int.eq_ofNat_of_zero_le hn.1
    have hlen : (blR m k).length = 16 := by rw [blR_length, kl]
    have hcut := fun w => RCut6_yes k m w kf kl (by omega)
    have heq : ∀ W, (Op.equalIn 9999 31 (.agg (u8s (blR m k)).toArray) (.agg (u8s l).toArray)).run Tryd.prog W = .ok (has6 l m k) W := fun W => eq_arr16 9997 (blR m k) l (blR_fit kf) hf hlen hl W
    have tk1 := cp6_take l m hl
    have tk2 := cp6_take (blR m k) m hlen
    have sn1 := cp6_get l m hl
    have sn2 := cp6_get (blR m k) m hlen
    rw [Bool.true_and]
    generalize has6 l m k = bb at *
    generalize blR m k = x at *
    have HC : Hid _ := hchk
    have HU : Hid _ := hcut
    clear hchk hok hcut
    go_enter Tryd.func41, Tryd.ntmps41
    go_wp2_with ((with_reducible show wpList _ _ _ _ _ _); refine arm_load rfl (.tmp 2) 40 rfl rfl HL.out ?_)
    refine Calls.mono (HC.out _) ?_
    rintro e w2 ⟨rfl, hB2⟩
    obtain ⟨hbl, bp, bq⟩ := HB1.out w2 hB2
    have HK : Hid _ := load6 kl (CellsAt.of_blk bq)
    have c4 := (CellsAt.pfx hl bp).2.2
    have HP0 : Hid _ := bp
    clear HB1 hB2 HC HL bp bq
    go_wp2_with ((with_reducible show wpList _ _ _ _ _ _); refine arm_load rfl (.tmp 3) 31 rfl rfl HK.out ?_)
    refine Calls.mono (HU.out _) ?_
    rintro e w3 ⟨rfl, hB3⟩
    have hBB := hbl.trans (hB3.mono hbl.size)
    have hslot := Slot6.zero (blk_new w3 _)
    obtain ⟨w4, hst, hres, hbel, _⟩ := hslot.put x m hlen
    have hB4 := hbel w.heap.size w hBB.size (hBB.alloc hBB.size _)
    have hB4' := hbel w3.heap.size w3 (Nat.le_refl _) ((Below.refl _ w3).alloc (Nat.le_refl _) _)
    have HP : Hid _ := loadP6 hl (CellsAt.pfx hl (blk_on (blk_on HP0.out hB3) hB4')).1
    have hq : (Instr.loadAt 40 (.pointer (some ⟨w3.heap.size, 0, none⟩))).run Tryd.prog w4 = .ok (P6 x m) w4 := by simpa [Instr.loadAt, Instr.sureAddr] using hres
    have HQ : Hid _ := hq
    have HS : Hid _ := hst
    clear hq hst hres hslot hbel hB4' hBB hB3 HU HK HP0 c4
    cases bb
    all_goals
      go_wp2_with first
        | ((with_reducible show wpList _ _ _ _ _ _); refine arm_store rfl _ _ 40 rfl rfl rfl HS.out ?_)
        | ((with_reducible show wpList _ _ _ _ _ _); refine arm_load rfl (.tmp 2) 40 rfl rfl HP.out ?_)
        | ((with_reducible show wpList _ _ _ _ _ _); refine arm_load rfl (.tmp 6) 40 rfl rfl HQ.out ?_)
      go_ret2
      exact ⟨rfl, hB4⟩

end Go.Proofs.YtlpbffcijhgelaaDoor

namespace Go.Proofs.YtlpbffcijhgelaaDoor
open Go Go.RowKit Go.ChangeShapes
set_option linter.unusedVariables false
set_option linter.unusedSimpArgs false

theorem cov6_has (l : List Int) (n : Int) (k : List Int) (m : Int) : cov6 l n k m = (has6 l n k && decide (n ≤ m)) := by
  unfold cov6 has6
  rw [Bool.and_comm]
  congr 1
  rw [decide_eq_decide]
  exact ⟨Eq.symm, Eq.symm⟩

set_option maxHeartbeats 4000000 in
set_option maxRecDepth 100000 in
theorem RCover6_calls (l : List Int) (n : Int) (k : List Int) (m : Int) (w : World) (hf : FitB l) (hl : l.length = 16) (kf : FitB k) (kl : k.length = 16) (hn : -9223372036854775808 ≤ n ∧ n ≤ 9223372036854775807) (hm : -9223372036854775808 ≤ m ∧ m ≤ 9223372036854775807) :
    Calls Tryd.prog 43 #[P6 l n, P6 k m] w fun e w' => e = .returned (.tuple #[.bool (both6 l n k m && cov6 l n k m), .int .i64 (if both6 l n k m then 0 else 22)]) ∧ Below w.heap.size w w' := by
  have c1 := fun w => RCheck6_calls l n w hf hl hn
  have c2 := fun w => RCheck6_calls k m w kf kl hm
  have c3 := fun w => RHas6_calls l n k w hf hl kf kl hn
  have b0 := blk_alloc (blk_new w (.cells (cp6 l n).toArray 40)) (.cells (cp6 k m).toArray 40)
  have b1 := fun w' => @two_new w (.cells (cp6 l n).toArray 40) (.cells (cp6 k m).toArray 40) w'
  have HL : Hid _ := loadP6 hl (CellsAt.pfx hl b0).1
  have HB1 : Hid _ := b1
  rw [cov6_has]
  unfold both6
  generalize hdd : decide (n ≤ m) = dd at *
  generalize has6 l n k = bb at *
  generalize okP6 l n = ok1 at *
  generalize okP6 k m = ok2 at *
  have HC1 : Hid _ := c1
  have HC2 : Hid _ := c2
  have HC3 : Hid _ := c3
  clear b0 b1 c1 c2 c3
  cases ok1
  · go_enter Tryd.func43, Tryd.ntmps43
    go_wp2_with ((with_reducible show wpList _ _ _ _ _ _); refine arm_load rfl (.tmp 2) 40 rfl rfl HL.out ?_)
    refine Calls.mono (HC1.out _) ?_
    rintro e w1 ⟨rfl, hb1⟩
    have hbl := (HB1.out w1 hb1).1
    go_wp2
    go_ret2
    exact ⟨rfl, hbl⟩
  · go_enter Tryd.func43, Tryd.ntmps43
    go_wp2_with ((with_reducible show wpList _ _ _ _ _ _); refine arm_load rfl (.tmp 2) 40 rfl rfl HL.out ?_)
    refine Calls.mono (HC1.out _) ?_
    rintro e w1 ⟨rfl, hb1⟩
    obtain ⟨hbl, bp, bq⟩ := HB1.out w1 hb1
    obtain ⟨lp, la, cp⟩ := Hi.pfx hl bp
    obtain ⟨mp, ma, cm⟩ := Hi.pfx kl bq
    have HQ : Hid _ := loadP6 kl (CellsAt.pfx kl bq).1
    have LP : Hid _ := lp
    have MA : Hid _ := ma
    clear HB1 HL HC1 bp bq hb1 lp la mp ma
    go_wp2_with ((with_reducible show wpList _ _ _ _ _ _); refine arm_load rfl (.tmp 3) 40 rfl rfl HQ.out ?_)
    refine Calls.mono (HC2.out _) ?_
    rintro e w2 ⟨rfl, hb2⟩
    obtain ⟨x2, rfl⟩ : ∃ x : Hi w1, w2 = x.W := ⟨⟨w2, hb2⟩, rfl⟩
    have hb2 := hbl.trans (x2.below.mono hbl.size)
    clear HQ HC2
    cases ok2
    · go_wp2
      go_ret2
      exact ⟨rfl, hb2⟩
    · go_wp2_with first
        | ((with_reducible show wpList _ _ _ _ _ _); refine arm_load rfl (.tmp 2) 40 rfl rfl (LP.out _) ?_)
        | ((with_reducible show wpList _ _ _ _ _ _); refine arm_load rfl _ 31 rfl rfl (MA.out _) ?_)
      refine Calls.mono (Hi.calls (HC3.out _)) ?_
      rintro e w3 ⟨rfl, x3, rfl⟩
      have hb3 := hbl.trans (x3.below.mono hbl.size)
      clear HC3 LP MA
      cases bb <;> cases dd
      all_goals
        go_wp2
        go_ret2
        exact ⟨rfl, hb3⟩

theorem open_addr6 {H : Type} {enc : TypeId × Value → H} {W : World} {v : Value} {d : DataW H} {p : List MemPlace} (h : DataW.Trod enc Tryd.prog W 0 (fun _ => true) true 31 v d p) :
    ∃ l, v = A6 l ∧ l.length = 16 ∧ FitB l := by
  obtain ⟨fuel, hf⟩ := h
  obtain ⟨zs, hl, hcs, hfit⟩ := cells_arr Tryd.underlying31 (by kernel_rfl) (by kernel_rfl) hf
  exact ⟨zs, agg_of (l := zs.map (fun z => Value.int .u8 z)) hcs (by rw [List.length_map, hl]; decide), hl, hfit⟩

set_option maxRecDepth 100000 in
theorem open_prefix6 {H : Type} {enc : TypeId × Value → H} {W : World} {v : Value} {d : DataW H} {p : List MemPlace} (h : DataW.Trod enc Tryd.prog W 0 (fun _ => true) true 40 v d p) :
    ∃ l n, v = P6 l n ∧ l.length = 16 ∧ FitB l ∧ (Lit.int .i64 n).wf = true := by
  obtain ⟨fuel, hf⟩ := h
  obtain ⟨y0, y1, m, _, hl, h0, h1⟩ := Go.ChangeShapes.trod_struct2 Tryd.underlying40 hf
  have c5 : Tryd.prog.cellsOf 40 = 17 := by kernel_rfl
  rw [c5] at hl
  have h0' : DataW.trod enc Tryd.prog W 0 (fun _ => true) true m 31 ((v.cells.toList.drop 0).take (Tryd.prog.cellsOf 31)) = some y0 := h0
  have h1' : DataW.trod enc Tryd.prog W 0 (fun _ => true) true m 3 ((v.cells.toList.drop 16).take (Tryd.prog.cellsOf 3)) = some y1 := h1
  have c4 : Tryd.prog.cellsOf 31 = 16 := by kernel_rfl
  have c1 : Tryd.prog.cellsOf 3 = 1 := by kernel_rfl
  rw [c4] at h0'
  rw [c1] at h1'
  obtain ⟨zs, hzl, hcs, hfit⟩ := cells_arr Tryd.underlying31 (by kernel_rfl) (by kernel_rfl) h0'
  obtain ⟨n, hn, _, wf⟩ := DataW.trod_int Tryd.underlying3 h1'
  have hall : v.cells.toList = cp6 zs n := by
    have e : v.cells.toList = v.cells.toList.take 16 ++ (v.cells.toList.drop 16).take 1 := by
      rw [List.take_of_length_le (l := v.cells.toList.drop 16) (by simp at hl ⊢; omega), List.take_append_drop]
    rw [e, hn]
    rw [List.drop_zero] at hcs
    rw [hcs]
    rfl
  have hv := agg_of hall (by rw [cp6_length _ _ hzl]; decide)
  exact ⟨zs, n, hv, hzl, hfit, wf⟩

end Go.Proofs.YtlpbffcijhgelaaDoor

namespace Go.Proofs.YtlpbffcijhgelaaDoor
open Go Go.RowKit
set_option linter.unusedVariables false
set_option linter.unusedSimpArgs false

/-- The table that strconv.Itoa reads, whatever is laid above. -/
def Tabs (w : World) : Prop := ∀ w', Below w.heap.size w w' → Lib.TabIs Tryd.prog w' "internal/strconv.uint64pow10" .u64 Lib.pow10Tab

abbrev strV (l : List UInt8) : Value := .string ⟨l.toArray⟩

def text4 (l : List Int) : List UInt8 := Lib.join (l.map Lib.itoa) [46]

theorem itoa_calls (n : Int) (hn : Byte n) (w : World) (ht : Lib.TabIs Tryd.prog w "internal/strconv.uint64pow10" .u64 Lib.pow10Tab) :
    Calls Tryd.prog 54 #[.int .i64 n] w fun e w' => e = .returned (.string ⟨(Lib.itoa n).toArray⟩) ∧ Below w.heap.size w w' := by
  obtain ⟨h0, h1⟩ := hn
  refine (Tryd.strconv_Itoa n (by omega) (by omega) w ht).mono ?_
  rintro e w' ⟨rfl, k, os, rfl⟩
  refine ⟨rfl, rfl, rfl, rfl, ?_, fun j hj => ?_⟩
  · show w.heap.size ≤ (w.heap ++ os).size
    rw [Array.size_append]
    omega
  · show (w.heap ++ os)[j]? = w.heap[j]?
    rw [Array.getElem?_append_left hj]

theorem itoa_len {n : Int} (hn : Byte n) : (Lib.itoa n).length ≤ 1000 := by
  obtain ⟨h0, h1⟩ := hn
  have d1 : ∀ u, u < 10 → (Lib.decDigits u).length = 1 := fun u hu => by rw [Lib.decDigits, dif_pos hu]; rfl
  have d2 : ∀ u, u < 100 → (Lib.decDigits u).length ≤ 2 := fun u hu => by
    rw [Lib.decDigits]
    split
    · simp
    · have := d1 (u / 10) (by omega)
      simp [this]
  have d3 : ∀ u, u < 1000 → (Lib.decDigits u).length ≤ 3 := fun u hu => by
    rw [Lib.decDigits]
    split
    · simp
    · have := d2 (u / 10) (by omega)
      simp
      omega
  unfold Lib.itoa
  rw [if_neg (by omega)]
  have := d3 n.toNat (by omega)
  omega

/-- The texts so far: a row of strings of the call's own. -/
structure Strs (w1 : World) (l : List (List UInt8)) (v : Value) (X : World) : Prop where
  own : X.ownsRow w1.heap.size 9 1 v l.length (l.map strV)
  below : Below w1.heap.size w1 X

theorem Strs.kept {w1 X Y : World} {l : List (List UInt8)} {v : Value} (h : Strs w1 l v X) (hb : Below X.heap.size X Y) : Strs w1 l v Y := by
  refine ⟨⟨h.own.1, h.own.2.imp id ?_⟩, h.below.trans (hb.mono h.below.size)⟩
  rintro ⟨G, cap, cur, rfl, hB, hg, r⟩
  exact ⟨G, cap, cur, rfl, hB, (hb.block G (Array.getElem?_eq_some_iff.1 hg).1).trans hg, r⟩

theorem Strs.add {w1 X : World} {l : List (List UInt8)} {v : Value} (h : Strs w1 l v X) (x : List UInt8) (hl : l.length ≤ 1000) (ty : TypeId) :
    ∃ v' X', (Builtin.append_ #[76, 76] ty #[v, .slice (some ⟨X.heap.size, 0, none⟩) 1 1]).run Tryd.prog (X.alloc (.cells #[strV x] 9)) = .ok v' X' ∧ Strs w1 (l ++ [x]) v' X' := by
  obtain ⟨v', X', hrun, hown, hgr, -⟩ := own_lit elem_string h.own h.below.size (by omega) (by decide) [strV x] 1 rfl (by decide) (by simp [strV, Value.oneCell']) ty _ rfl
  exact ⟨v', X', hrun, ⟨by simpa using hown, h.below.grown hgr h.below.size (fun k hk => (h.own.lt k hk).1)⟩⟩

/-- Join of the texts. -/
theorem Strs.join {w1 X : World} {l : List (List UInt8)} {v : Value} (h : Strs w1 l v X) (c : UInt8) (hl : l.length ≤ 8) (hs : ∀ x ∈ l, x.length ≤ 1000) :
    Calls Tryd.prog 55 #[v, .string ⟨#[c]⟩] X fun e w' => e = .returned (strV (Lib.join l [c])) ∧ Below X.heap.size X w' := by
  have hlen : (Lib.join l [c]).length ≤ 140737488355328 := by
    have : ∀ l : List (List UInt8), (∀ x ∈ l, x.length ≤ 1000) → (Lib.join l [c]).length ≤ 1001 * l.length := by
      intro l
      induction l with
      | nil => intro _; simp [Lib.join_nil]
      | cons x r ih =>
        intro hx
        rw [Lib.join_cons]
        have ht : ∀ r : List (List UInt8), (∀ y ∈ r, y.length ≤ 1000) → (Lib.joinTail [c] r).length ≤ 1001 * r.length := by
          intro r
          induction r with
          | nil => intro _; simp [Lib.joinTail]
          | cons y r ih =>
            intro hy
            have h1 := ih (fun z hz => hy z (List.mem_cons_of_mem _ hz))
            have h2 := hy y (List.mem_cons_self)
            simp only [Lib.joinTail, List.map_cons, List.flatten_cons, List.length_append, List.length_cons, List.length_nil] at h1 ⊢
            omega
        have h1 := ht r (fun z hz => hx z (List.mem_cons_of_mem _ hz))
        have h2 := hx x (List.mem_cons_self)
        simp only [List.length_append, List.length_cons]
        omega
    have := this l hs
    omega
  have hcell := fun g hg => h.own.cells (g := g) hg
  rcases h.own.2 with ⟨rfl, hn⟩ | ⟨G, cap, cur, rfl, hB, hg, hcap, -⟩
  · obtain rfl : l = [] := List.length_eq_zero_iff.1 hn
    refine (Tryd.strings_Join_none none 0 ⟨#[c]⟩ X).mono ?_
    rintro e w' ⟨rfl, rfl⟩
    exact ⟨rfl, Below.refl _ _⟩
  · have hj := Tryd.strings_Join G 0 cap (l.map (fun x => (⟨x.toArray⟩ : ByteArray))) ⟨#[c]⟩ X (fun j x hj => by
      rw [List.getElem?_map] at hj
      cases hz : l[j]? with
      | none => simp [hz] at hj
      | some z =>
        simp [hz] at hj
        subst hj
        have := hcell G rfl j (strV z) (by rw [List.getElem?_map, hz]; rfl)
        rw [Go.WideShapes.add_plain] at this
        simpa [strV] using this) (Array.getElem?_eq_some_iff.1 hg).1 (by simp; omega) (by simpa using hcap) (by
        have e : (List.map (fun x : ByteArray => x.data.toList) (List.map (fun x => (⟨x.toArray⟩ : ByteArray)) l)) = l := by
          rw [List.map_map]
          conv => rhs; rw [← List.map_id l]
          rfl
        rw [e]
        exact hlen)
    have e : (List.map (fun x : ByteArray => x.data.toList) (List.map (fun x => (⟨x.toArray⟩ : ByteArray)) l)) = l := by
      rw [List.map_map]
      conv => rhs; rw [← List.map_id l]
      rfl
    rw [e, List.length_map] at hj
    exact hj

set_option maxHeartbeats 4000000 in
set_option maxRecDepth 100000 in
theorem text4_calls (a0 a1 a2 a3 : Int) (h0 : Byte a0) (h1 : Byte a1) (h2 : Byte a2) (h3 : Byte a3) (w : World) (ht : Tabs w) :
    Calls Tryd.prog 15 #[addrV [a0, a1, a2, a3]] w fun e w' => e = .returned (strV (text4 [a0, a1, a2, a3])) ∧ Below w.heap.size w w' := by
  show Calls Tryd.prog _ #[.agg #[.int .u8 a0, .int .u8 a1, .int .u8 a2, .int .u8 a3]] w _
  have HT : Hid _ := ht
  clear ht
  have b0 : 0 ≤ a0 ∧ a0 < 256 := h0
  have b1 : 0 ≤ a1 ∧ a1 < 256 := h1
  have b2 : 0 ≤ a2 ∧ a2 < 256 := h2
  have b3 : 0 ≤ a3 ∧ a3 < 256 := h3
  have hB1 : Below w.heap.size w (w.alloc (.cells #[.int .u8 a0, .int .u8 a1, .int .u8 a2, .int .u8 a3] 23)) := (Below.refl _ w).alloc (Nat.le_refl _) _
  have i0 : ∀ u : World, (Instr.index 23 (.agg #[.int .u8 a0, .int .u8 a1, .int .u8 a2, .int .u8 a3]) (.int .i64 0)).run Tryd.prog u = .ok (.int .u8 a0) u := fun _ => by kernel_rfl
  have i1 : ∀ u : World, (Instr.index 23 (.agg #[.int .u8 a0, .int .u8 a1, .int .u8 a2, .int .u8 a3]) (.int .i64 1)).run Tryd.prog u = .ok (.int .u8 a1) u := fun _ => by kernel_rfl
  have i2 : ∀ u : World, (Instr.index 23 (.agg #[.int .u8 a0, .int .u8 a1, .int .u8 a2, .int .u8 a3]) (.int .i64 2)).run Tryd.prog u = .ok (.int .u8 a2) u := fun _ => by kernel_rfl
  have i3 : ∀ u : World, (Instr.index 23 (.agg #[.int .u8 a0, .int .u8 a1, .int .u8 a2, .int .u8 a3]) (.int .i64 3)).run Tryd.prog u = .ok (.int .u8 a3) u := fun _ => by kernel_rfl
  go_enter Tryd.func15, Tryd.ntmps15
  go_wp2_with fail
  generalize w.alloc (.cells #[.int .u8 a0, .int .u8 a1, .int .u8 a2, .int .u8 a3] 23) = w1 at hB1 ⊢
  go_loopw [3, 7] (fun v3 v7 wr => ∃ (k : Nat), v7 = .int .i64 k ∧ k ≤ 4 ∧ Strs w1 (([a0, a1, a2, a3].take k).map Lib.itoa) v3 wr) (fun _ v7 _ => 4 - (intOf v7).toNat)
  case atStart => exact ⟨0, rfl, by decide, ⟨World.ownsRow_nil _ _ _ _, Below.refl _ _⟩⟩
  case round =>
    obtain ⟨k, rfl, hk, hS⟩ := hrel
    have hcase : k = 0 ∨ k = 1 ∨ k = 2 ∨ k = 3 ∨ k = 4 := by omega
    rcases hcase with rfl | rfl | rfl | rfl | rfl
    · have hC := itoa_calls a0 h0 wr (HT.out wr (hB1.trans (hS.below.mono hB1.size)))
      go_wp2_with fail
      refine hC.mono ?_
      rintro e W1 ⟨rfl, hb⟩
      clear hC
      obtain ⟨v', X', hrun, hS'⟩ := (hS.kept hb).add (Lib.itoa a0) (by simp) 76
      have HR : Hid _ := hrun
      clear hrun
      go_wp2_with (at_builtin; refine wpList_append_run rfl _ _ _ _ rfl rfl rfl HR.out ?_; clear HR)
      exact ⟨⟨1, rfl, by decide, hS'⟩, by simp [intOf]⟩
    · have hC := itoa_calls a1 h1 wr (HT.out wr (hB1.trans (hS.below.mono hB1.size)))
      go_wp2_with fail
      refine hC.mono ?_
      rintro e W1 ⟨rfl, hb⟩
      clear hC
      obtain ⟨v', X', hrun, hS'⟩ := (hS.kept hb).add (Lib.itoa a1) (by simp) 76
      have HR : Hid _ := hrun
      clear hrun
      go_wp2_with (at_builtin; refine wpList_append_run rfl _ _ _ _ rfl rfl rfl HR.out ?_; clear HR)
      exact ⟨⟨2, rfl, by decide, hS'⟩, by simp [intOf]⟩
    · have hC := itoa_calls a2 h2 wr (HT.out wr (hB1.trans (hS.below.mono hB1.size)))
      go_wp2_with fail
      refine hC.mono ?_
      rintro e W1 ⟨rfl, hb⟩
      clear hC
      obtain ⟨v', X', hrun, hS'⟩ := (hS.kept hb).add (Lib.itoa a2) (by simp) 76
      have HR : Hid _ := hrun
      clear hrun
      go_wp2_with (at_builtin; refine wpList_append_run rfl _ _ _ _ rfl rfl rfl HR.out ?_; clear HR)
      exact ⟨⟨3, rfl, by decide, hS'⟩, by simp [intOf]⟩
    · have hC := itoa_calls a3 h3 wr (HT.out wr (hB1.trans (hS.below.mono hB1.size)))
      go_wp2_with fail
      refine hC.mono ?_
      rintro e W1 ⟨rfl, hb⟩
      clear hC
      obtain ⟨v', X', hrun, hS'⟩ := (hS.kept hb).add (Lib.itoa a3) (by simp) 76
      have HR : Hid _ := hrun
      clear hrun
      go_wp2_with (at_builtin; refine wpList_append_run rfl _ _ _ _ rfl rfl rfl HR.out ?_; clear HR)
      exact ⟨⟨4, rfl, by decide, hS'⟩, by simp [intOf]⟩
    · have hC := hS.join 46 (by simp) (fun x hx => by
        simp at hx
        rcases hx with rfl | rfl | rfl | rfl
        · exact itoa_len h0
        · exact itoa_len h1
        · exact itoa_len h2
        · exact itoa_len h3)
      go_wp2_with fail
      refine hC.mono ?_
      rintro e W1 ⟨rfl, hb⟩
      go_wp2
      go_ret
      exact ⟨rfl, (hB1.trans (hS.below.mono hB1.size)).trans (hb.mono (Nat.le_trans hB1.size hS.below.size))⟩
end Go.Proofs.YtlpbffcijhgelaaDoor
