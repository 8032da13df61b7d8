/-
  The statement AddrFours for every argument.
-/
import Derived.Test.YtiigcilclblblaaDoorRa3
import Derived.Test.YtiigcilclblblaaDoorAAwk
import Derived.Test.YtiigcilclblblaaDoorAgg
import Derived.Test.YtiigcilclblblaaDoorAddrEq
import Derived.OpenShut
import Derived.ShutString
import Derived.ChangeArms
import Derived.ChangeSame
import Derived.ProofKit
namespace Go.Proofs.YtiigcilclblblaaDoor
open Go Go.RowKit Go.ChangeShapes Go.WideShapes Go.ChangeAt
set_option linter.unusedVariables false
set_option linter.unusedSimpArgs false

theorem dot_read_ok : ∀ (l : List UInt8) (pos : Nat) (d d' : Dot), d.Ok → dotReader.read l pos d = .good d' → d'.Ok
  | [], pos, d, d', hd, h => by
    unfold Reader.read at h
    split at h
    · cases h; exact hd
    · cases h
  | c :: l, pos, d, d', hd, h => by
    unfold Reader.read at h
    have e : dotReader.take d ((c.toNat : Nat) : Int) = d.take ((c.toNat : Nat) : Int) := rfl
    rw [e] at h
    cases ht : d.take ((c.toNat : Nat) : Int) with
    | none => rw [ht] at h; cases h
    | some d2 =>
      rw [ht] at h
      exact dot_read_ok l (pos + 1) d2 d' (Dot.take_ok ht hd) h
theorem parse4_four (l : List UInt8) : ∃ x0 x1 x2 x3 : Int, (parse4 l).1 = [x0, x1, x2, x3] ∧ FitB [x0, x1, x2, x3] := by
  unfold parse4
  cases hr : dotReader.read l 0 Dot.new with
  | bad n => exact ⟨_, _, _, _, rfl, fun z hz => by simp at hz; omega⟩
  | good d =>
    have hd := dot_read_ok l 0 Dot.new d Dot.ok_new hr
    have b0 : 0 ≤ d.e0 ∧ d.e0 < 256 := hd.e0
    have b1 : 0 ≤ d.e1 ∧ d.e1 < 256 := hd.e1
    have b2 : 0 ≤ d.e2 ∧ d.e2 < 256 := hd.e2
    have b3 : 0 ≤ d.num.value ∧ d.num.value ≤ 255 := hd.num
    refine ⟨_, _, _, _, rfl, fun z hz => ?_⟩
    simp at hz
    rcases hz with rfl | rfl | rfl | rfl <;> omega
theorem parse4_all (s : ByteArray) (hs : s.size ≤ 140737488355328) : ∃ (x0 x1 x2 x3 n e : Int), FitB [x0, x1, x2, x3] ∧
    (∀ W, Calls Tryd.prog 13 #[.string s] W fun e' w' => e' = .returned (.tuple #[.agg #[.int .u8 x0, .int .u8 x1, .int .u8 x2, .int .u8 x3], .int .i64 n, .int .i64 e]) ∧ Below W.heap.size W w') ∧
    (∀ W, Calls Tryd.prog 14 #[.string s] W fun e' w' => e' = .returned (.tuple #[.agg #[.int .u8 x0, .int .u8 x1, .int .u8 x2, .int .u8 x3], .int .i64 n, .int .i64 e]) ∧ Below W.heap.size W w') := by
  obtain ⟨x0, x1, x2, x3, hx, hfx⟩ := parse4_four s.data.toList
  refine ⟨x0, x1, x2, x3, ((parse4 s.data.toList).2.1 : Int), (parse4 s.data.toList).2.2, hfx, fun W => ?_, fun W => ?_⟩
  · have h := parse4_calls s hs W
    rw [hx] at h
    exact h
  · have h := Parse4_wide s W hs
    unfold Par4Post at h
    have e : rparse4 (txt s) = ((parse4 s.data.toList).1, ((parse4 s.data.toList).2.1 : Int), (parse4 s.data.toList).2.2) := parse_both s.data.toList
    rw [e, hx] at h
    exact h

set_option maxHeartbeats 4000000 in
set_option maxRecDepth 100000 in
theorem addrFours_walk (s : ByteArray) (hs : s.size ≤ 140737488355328) (a0 a1 a2 a3 : Int) (h0 : Byte a0) (h1 : Byte a1) (h2 : Byte a2) (h3 : Byte a3) (w : World) (tb : Tabs w ∧ Tz w) :
    Calls Tryd.prog 3 #[.string s, .agg #[.int .u8 a0, .int .u8 a1, .int .u8 a2, .int .u8 a3]] w fun e w' => e = .returned (.bool true) ∧ Below w.heap.size w w' := by
  obtain ⟨x0, x1, x2, x3, n, er, hfx, g1, g2⟩ := parse4_all s hs
  have eqx9999 : ∀ W, (Op.equalIn 9999 23 (.agg #[.int .u8 x0, .int .u8 x1, .int .u8 x2, .int .u8 x3]) (.agg #[.int .u8 x0, .int .u8 x1, .int .u8 x2, .int .u8 x3])).run Tryd.prog W = .ok true W := fun W => by
    have := eq_arr4 9997 [x0, x1, x2, x3] [x0, x1, x2, x3] hfx hfx rfl rfl W
    rwa [decide_eq_true rfl] at this
  have eqx10000 : ∀ W, (Op.equalIn 10000 23 (.agg #[.int .u8 x0, .int .u8 x1, .int .u8 x2, .int .u8 x3]) (.agg #[.int .u8 x0, .int .u8 x1, .int .u8 x2, .int .u8 x3])).run Tryd.prog W = .ok true W := fun W => by
    have := eq_arr4 9998 [x0, x1, x2, x3] [x0, x1, x2, x3] hfx hfx rfl rfl W
    rwa [decide_eq_true rfl] at this
  have H1 : Hid _ := g1
  have H2 : Hid _ := g2
  have HT1 : Hid (∀ W, Below w.heap.size w W → Calls Tryd.prog 15 #[.agg #[.int .u8 a0, .int .u8 a1, .int .u8 a2, .int .u8 a3]] W fun e w' => e = .returned (strV (text4 [a0, a1, a2, a3])) ∧ Below W.heap.size W w') := fun W hW => text4_calls a0 a1 a2 a3 h0 h1 h2 h3 W (Tabs.on tb.1 hW)
  have HT2 : Hid (∀ W, Below w.heap.size w W → Calls Tryd.prog 16 #[.agg #[.int .u8 a0, .int .u8 a1, .int .u8 a2, .int .u8 a3]] W fun e w' => e = .returned (strV (text4 [a0, a1, a2, a3])) ∧ Below W.heap.size W w') := fun W hW => RText4_calls a0 a1 a2 a3 h0 h1 h2 h3 W (Tabs.on tb.1 hW)
  have HAW : Hid (∀ W, Below w.heap.size w W → Calls Tryd.prog 17 #[] W fun e w' => e = .returned (.bool true) ∧ Below W.heap.size W w') := fun W hW => Awake.on tb W hW
  have hB := (Below.refl w.heap.size w).alloc (Nat.le_refl _) (.cells #[.int .u8 a0, .int .u8 a1, .int .u8 a2, .int .u8 a3] 23)
  have hk := blk_new w (.cells #[.int .u8 a0, .int .u8 a1, .int .u8 a2, .int .u8 a3] 23)
  clear g1 g2 tb
  generalize text4 [a0, a1, a2, a3] = T at *
  go_enter Tryd.func3, Tryd.ntmps3
  go_wp2_with fail
  refine (H1.out _).mono ?_
  rintro e w2 ⟨rfl, hB2⟩
  have hk2 := blk_on hk hB2
  have hBw2 := hB.trans (hB2.mono hB.size)
  have hb5 := blk_new w2 (.cells #[.int .u8 x0, .int .u8 x1, .int .u8 x2, .int .u8 x3] 23)
  have hk3 := blk_alloc hk2 (.cells #[.int .u8 x0, .int .u8 x1, .int .u8 x2, .int .u8 x3] 23)
  have hBw3 := hBw2.alloc hBw2.size (.cells #[.int .u8 x0, .int .u8 x1, .int .u8 x2, .int .u8 x3] 23)
  clear hk hk2 hB2 hB H1
  go_wp2_with fail
  refine (H2.out _).mono ?_
  rintro e w4 ⟨rfl, hB4⟩
  have hk4 := blk_alloc (blk_on hk3 hB4) (.cells #[.int .u8 x0, .int .u8 x1, .int .u8 x2, .int .u8 x3] 23)
  have hb54 := blk_alloc (blk_on hb5 hB4) (.cells #[.int .u8 x0, .int .u8 x1, .int .u8 x2, .int .u8 x3] 23)
  have hb8 := blk_new w4 (.cells #[.int .u8 x0, .int .u8 x1, .int .u8 x2, .int .u8 x3] 23)
  have hBw4 := hBw3.trans (hB4.mono hBw3.size)
  have hBw5 := hBw4.alloc hBw4.size (.cells #[.int .u8 x0, .int .u8 x1, .int .u8 x2, .int .u8 x3] 23)
  obtain ⟨p0, p1, p2, p3⟩ := Hi.cell4 hk4
  obtain ⟨q0, q1, q2, q3⟩ := Hi.cell4 hb54
  obtain ⟨r0, r1, r2, r3⟩ := Hi.cell4 hb8
  have HBW : Hid _ := hBw5
  have e1 : (n == n) = true := beq_self_eq_true n
  have e2 : (er == er) = true := beq_self_eq_true er
  clear hk3 hb5 hB4 hk4 hb54 hb8 hBw2 hBw3 hBw4 hBw5 H2
  go_wp2_with fail
  refine wp_region_hi (by kernel_rfl) (by kernel_rfl) ?_
  repeat (go_big_quiet_step (first | (go_at_call 15; exact Hi.calls (HT1.out _ (HBW.out.trans ((Hi.below _).mono HBW.out.size)))) | (go_at_call 16; exact Hi.calls (HT2.out _ (HBW.out.trans ((Hi.below _).mono HBW.out.size)))) | (go_at_call 17; exact Hi.calls (HAW.out _ (HBW.out.trans ((Hi.below _).mono HBW.out.size))))))
  refine wpQuiet_nil ?_
  intro _ hw
  obtain ⟨y, rfl⟩ := hw
  go_wp2
  go_ret
  exact ⟨rfl, HBW.out.trans (y.below.mono HBW.out.size)⟩

theorem cells_arr {H : Type} {enc : TypeId × Value → H} {w : World} {base : Nat} {spare : Nat → Bool} {held : Bool} {fuel : Nat} {t : TypeId} {cs : List Value} {x : DataW H × List MemPlace} {n : Nat}
    (ht : Tryd.prog.underlying t = some (.array n 5)) (ct : Tryd.prog.cellsOf t = n) (ce : Tryd.prog.cellsOf 5 = 1) (h : DataW.trod enc Tryd.prog w base spare held fuel t cs = some x) :
    ∃ zs : List Int, zs.length = n ∧ cs = zs.map (fun z => Value.int .u8 z) ∧ ∀ z ∈ zs, 0 ≤ z ∧ z < 256 := by
  obtain ⟨xs, m, _, _, hl, hx, hi⟩ := DataW.trod_array ht h
  rw [ct] at hl
  have each : ∀ i, i < n → ∃ z : Int, cs[i]? = some (.int .u8 z) ∧ 0 ≤ z ∧ z < 256 := by
    intro i hin
    have h1 := hi i hin
    rw [ce, Nat.mul_one, List.getElem?_eq_getElem (by omega)] at h1
    obtain ⟨z, e, _, wf⟩ := DataW.trod_int Tryd.underlying5 h1
    have hb := bounds_u8 wf
    refine ⟨z, ?_, by omega, by omega⟩
    have e2 := congrArg (fun l : List Value => l[0]?) e
    simpa [List.getElem?_take, List.getElem?_drop] using e2
  refine ⟨cs.map intOf, by simpa using hl, ?_, ?_⟩
  · refine List.ext_getElem? fun i => ?_
    by_cases c : i < n
    · obtain ⟨z, hz, _⟩ := each i c
      simp [hz, intOf]
    · rw [List.getElem?_eq_none (by omega), List.getElem?_eq_none (by simp; omega)]
  · intro z hz
    obtain ⟨v, hv, rfl⟩ := List.mem_map.1 hz
    obtain ⟨i, hi', e⟩ := List.getElem_of_mem hv
    obtain ⟨z, hz2, hb⟩ := each i (by omega)
    rw [List.getElem?_eq_getElem hi', e] at hz2
    cases hz2
    exact hb
theorem agg_of {v : Value} {l : List Value} (h : v.cells.toList = l) (hl : 2 ≤ l.length) : v = .agg l.toArray := by
  cases v
  case agg cs => simp only [Value.cells] at h; rw [← h]
  all_goals (simp [Value.cells] at h; subst h; simp at hl)
set_option maxRecDepth 100000 in
theorem open_four {H : Type} {enc : TypeId × Value → H} {W : World} {v : Value} {d : DataW H} {p : List MemPlace} (h : DataW.Trod enc Tryd.prog W 0 (fun _ => true) true 23 v d p) :
    ∃ a0 a1 a2 a3, v = .agg #[.int .u8 a0, .int .u8 a1, .int .u8 a2, .int .u8 a3] ∧ Byte a0 ∧ Byte a1 ∧ Byte a2 ∧ Byte a3 := by
  obtain ⟨fuel, hf⟩ := h
  obtain ⟨zs, hl, hcs, hfit⟩ := cells_arr Tryd.underlying23 (by kernel_rfl) (by kernel_rfl) hf
  have hv := agg_of hcs (by simp; omega)
  match zs, hl with
  | [x0, x1, x2, x3], _ => exact ⟨x0, x1, x2, x3, hv, hfit _ (by simp), hfit _ (by simp), hfit _ (by simp), hfit _ (by simp)⟩
set_option maxRecDepth 100000 in
theorem open_text {H : Type} {enc : TypeId × Value → H} {W : World} {base : Nat} {v : Value} {d : DataW H} {p : List MemPlace} (o : Value.okWide Tryd.prog W .any base 9 v) (h : DataW.Trod enc Tryd.prog W 0 (fun _ => true) true 9 v d p) (z : ∀ k ∈ d.weights Tryd.prog 9, k ≤ reachBytes) :
    ∃ s : ByteArray, v = .string s ∧ s.size ≤ 140737488351232 := by
  obtain ⟨s, rfl, rfl, _, _⟩ := Go.ChangeMaps.open_string Tryd.underlying9 o h
  refine ⟨s, rfl, ?_⟩
  have h1 := z s.data.toList.length (by simp [DataW.weights])
  have h2 : reachBytes = 140737488351232 := rfl
  rw [h2] at h1
  exact h1

set_option maxRecDepth 100000 in
theorem addrFours_open {H : Type} {enc : TypeId × Value → H} {W : World} {base : Nat} (tb : Tabs W ∧ Tz W) (v0 v1 : Value) {d0 d1 : DataW H} {p0 p1 : List MemPlace}
    (o0 : Value.okWide Tryd.prog W .any base 9 v0) (h0 : DataW.Trod enc Tryd.prog W 0 (fun _ => true) true 9 v0 d0 p0) (z0 : ∀ k ∈ d0.weights Tryd.prog 9, k ≤ reachBytes)
    (o1 : Value.okWide Tryd.prog W .any base 23 v1) (h1 : DataW.Trod enc Tryd.prog W 0 (fun _ => true) true 23 v1 d1 p1) (z1 : ∀ k ∈ d1.weights Tryd.prog 23, k ≤ reachBytes) :
    Calls Tryd.prog 3 #[v0, v1] W fun e w' => e = .returned (.bool true) ∧ Below W.heap.size W w' := by
  obtain ⟨s, rfl, hs⟩ := open_text o0 h0 z0
  obtain ⟨a0, a1, a2, a3, rfl, f0, f1, f2, f3⟩ := open_four h1
  exact addrFours_walk s (by omega) a0 a1 a2 a3 f0 f1 f2 f3 W tb

end Go.Proofs.YtiigcilclblblaaDoor
