/-
  The statement AddrFours for every argument.
  The statement AddrBack for every argument.
  The statement AddrBack for every argument.
-/
import Derived.Test.YtopbbljnhnhpaaaDoorFoldD
import Derived.Test.YtopbbljnhnhpaaaDoorFoldF
import Derived.Test.YtopbbljnhnhpaaaDoorAgg
import Derived.Test.YtopbbljnhnhpaaaDoorAddrEq
import Derived.OpenShut
import Derived.ShutString
import Derived.ChangeArms
import Derived.ChangeSame
import Derived.ProofKit
import Derived.Test.YtopbbljnhnhpaaaDoorFoldE
namespace Go.Proofs.YtopbbljnhnhpaaaDoor
open Go Go.RowKit Go.ChangeShapes Go.WideShapes Go.ChangeAt
set_option linter.unusedVariables false
set_option linter.unusedSimpArgs false

theorem dot_read_ok : ∀ (l : List UInt8) (pos : Nat) (d d' : Dot), d.Ok → dotReader.read l pos d = .good d' → d'.Ok
  | [], pos, d, d', hd, h => by
    unfold Reader.read at h
    split at h
    · cases h; exact hd
    · cases h
  | c :: l, pos, d, d', hd, h => by
    unfold Reader.read at h
    have e : dotReader.take d ((c.toNat : Nat) : Int) = d.take ((c.toNat : Nat) : Int) := rfl
    rw [e] at h
    cases ht : d.take ((c.toNat : Nat) : Int) with
    | none => rw [ht] at h; cases h
    | some d2 =>
      rw [ht] at h
      exact dot_read_ok l (pos + 1) d2 d' (Dot.take_ok ht hd) h
theorem parse4_four (l : List UInt8) : ∃ x0 x1 x2 x3 : Int, (parse4 l).1 = [x0, x1, x2, x3] ∧ FitB [x0, x1, x2, x3] := by
  unfold parse4
  cases hr : dotReader.read l 0 Dot.new with
  | bad n => exact ⟨_, _, _, _, rfl, fun z hz => by simp at hz; omega⟩
  | good d =>
    have hd := dot_read_ok l 0 Dot.new d Dot.ok_new hr
    have b0 : 0 ≤ d.e0 ∧ d.e0 < 256 := hd.e0
    have b1 : 0 ≤ d.e1 ∧ d.e1 < 256 := hd.e1
    have b2 : 0 ≤ d.e2 ∧ d.e2 < 256 := hd.e2
    have b3 : 0 ≤ d.num.value ∧ d.num.value ≤ 255 := hd.num
    refine ⟨_, _, _, _, rfl, fun z hz => ?_⟩
    simp at hz
    rcases hz with rfl | rfl | rfl | rfl <;> omega
theorem parse4_all (s : ByteArray) (hs : s.size ≤ 140737488355328) : ∃ (x0 x1 x2 x3 n e : Int), FitB [x0, x1, x2, x3] ∧
    (∀ W, Calls Tryd.prog 13 #[.string s] W fun e' w' => e' = .returned (.tuple #[.agg #[.int .u8 x0, .int .u8 x1, .int .u8 x2, .int .u8 x3], .int .i64 n, .int .i64 e]) ∧ Below W.heap.size W w') ∧
    (∀ W, Calls Tryd.prog 14 #[.string s] W fun e' w' => e' = .returned (.tuple #[.agg #[.int .u8 x0, .int .u8 x1, .int .u8 x2, .int .u8 x3], .int .i64 n, .int .i64 e]) ∧ Below W.heap.size W w') := by
  obtain ⟨x0, x1, x2, x3, hx, hfx⟩ := parse4_four s.data.toList
  refine ⟨x0, x1, x2, x3, ((parse4 s.data.toList).2.1 : Int), (parse4 s.data.toList).2.2, hfx, fun W => ?_, fun W => ?_⟩
  · have h := parse4_calls s hs W
    rw [hx] at h
    exact h
  · have h := Parse4_wide s W hs
    unfold Par4Post at h
    have e : rparse4 (txt s) = ((parse4 s.data.toList).1, ((parse4 s.data.toList).2.1 : Int), (parse4 s.data.toList).2.2) := parse_both s.data.toList
    rw [e, hx] at h
    exact h

set_option maxHeartbeats 4000000 in
set_option maxRecDepth 100000 in
theorem addrFours_walk (s : ByteArray) (hs : s.size ≤ 140737488355328) (a0 a1 a2 a3 : Int) (h0 : Byte a0) (h1 : Byte a1) (h2 : Byte a2) (h3 : Byte a3) (w : World) (tb : Tabs w ∧ Tz w) :
    Calls Tryd.prog 3 #[.string s, .agg #[.int .u8 a0, .int .u8 a1, .int .u8 a2, .int .u8 a3]] w fun e w' => e = .returned (.bool true) ∧ Below w.heap.size w w' := by
  obtain ⟨x0, x1, x2, x3, n, er, hfx, g1, g2⟩ := parse4_all s hs
  have eqx9999 : ∀ W, (Op.equalIn 9999 23 (.agg #[.int .u8 x0, .int .u8 x1, .int .u8 x2, .int .u8 x3]) (.agg #[.int .u8 x0, .int .u8 x1, .int .u8 x2, .int .u8 x3])).run Tryd.prog W = .ok true W := fun W => by
    have := eq_arr4 9997 [x0, x1, x2, x3] [x0, x1, x2, x3] hfx hfx rfl rfl W
    rwa [decide_eq_true rfl] at this
  have eqx10000 : ∀ W, (Op.equalIn 10000 23 (.agg #[.int .u8 x0, .int .u8 x1, .int .u8 x2, .int .u8 x3]) (.agg #[.int .u8 x0, .int .u8 x1, .int .u8 x2, .int .u8 x3])).run Tryd.prog W = .ok true W := fun W => by
    have := eq_arr4 9998 [x0, x1, x2, x3] [x0, x1, x2, x3] hfx hfx rfl rfl W
    rwa [decide_eq_true rfl] at this
  have H1 : Hid _ := g1
  have H2 : Hid _ := g2
  have HT1 : Hid (∀ W, Below w.heap.size w W → Calls Tryd.prog 15 #[.agg #[.int .u8 a0, .int .u8 a1, .int .u8 a2, .int .u8 a3]] W fun e w' => e = .returned (strV (text4 [a0, a1, a2, a3])) ∧ Below W.heap.size W w') := fun W hW => text4_calls a0 a1 a2 a3 h0 h1 h2 h3 W (Tabs.on tb.1 hW)
  have HT2 : Hid (∀ W, Below w.heap.size w W → Calls Tryd.prog 16 #[.agg #[.int .u8 a0, .int .u8 a1, .int .u8 a2, .int .u8 a3]] W fun e w' => e = .returned (strV (text4 [a0, a1, a2, a3])) ∧ Below W.heap.size W w') := fun W hW => RText4_calls a0 a1 a2 a3 h0 h1 h2 h3 W (Tabs.on tb.1 hW)
  have HAW : Hid (∀ W, Below w.heap.size w W → Calls Tryd.prog 17 #[] W fun e w' => e = .returned (.bool true) ∧ Below W.heap.size W w') := fun W hW => Awake.on tb W hW
  have hB := (Below.refl w.heap.size w).alloc (Nat.le_refl _) (.cells #[.int .u8 a0, .int .u8 a1, .int .u8 a2, .int .u8 a3] 23)
  have hk := blk_new w (.cells #[.int .u8 a0, .int .u8 a1, .int .u8 a2, .int .u8 a3] 23)
  clear g1 g2 tb
  generalize text4 [a0, a1, a2, a3] = T at *
  go_enter Tryd.func3, Tryd.ntmps3
  go_wp2_with fail
  refine (H1.out _).mono ?_
  rintro e w2 ⟨rfl, hB2⟩
  have hk2 := blk_on hk hB2
  have hBw2 := hB.trans (hB2.mono hB.size)
  have hb5 := blk_new w2 (.cells #[.int .u8 x0, .int .u8 x1, .int .u8 x2, .int .u8 x3] 23)
  have hk3 := blk_alloc hk2 (.cells #[.int .u8 x0, .int .u8 x1, .int .u8 x2, .int .u8 x3] 23)
  have hBw3 := hBw2.alloc hBw2.size (.cells #[.int .u8 x0, .int .u8 x1, .int .u8 x2, .int .u8 x3] 23)
  clear hk hk2 hB2 hB H1
  go_wp2_with fail
  refine (H2.out _).mono ?_
  rintro e w4 ⟨rfl, hB4⟩
  have hk4 := blk_alloc (blk_on hk3 hB4) (.cells #[.int .u8 x0, .int .u8 x1, .int .u8 x2, .int .u8 x3] 23)
  have hb54 := blk_alloc (blk_on hb5 hB4) (.cells #[.int .u8 x0, .int .u8 x1, .int .u8 x2, .int .u8 x3] 23)
  have hb8 := blk_new w4 (.cells #[.int .u8 x0, .int .u8 x1, .int .u8 x2, .int .u8 x3] 23)
  have hBw4 := hBw3.trans (hB4.mono hBw3.size)
  have hBw5 := hBw4.alloc hBw4.size (.cells #[.int .u8 x0, .int .u8 x1, .int .u8 x2, .int .u8 x3] 23)
  obtain ⟨p0, p1, p2, p3⟩ := Hi.cell4 hk4
  obtain ⟨q0, q1, q2, q3⟩ := Hi.cell4 hb54
  obtain ⟨r0, r1, r2, r3⟩ := Hi.cell4 hb8
  have HBW : Hid _ := hBw5
  have e1 : (n == n) = true := beq_self_eq_true n
  have e2 : (er == er) = true := beq_self_eq_true er
  clear hk3 hb5 hB4 hk4 hb54 hb8 hBw2 hBw3 hBw4 hBw5 H2
  go_wp2_with fail
  refine wp_region_hi (by kernel_rfl) (by kernel_rfl) ?_
  repeat (go_big_quiet_step (first | (go_at_call 15; exact Hi.calls (HT1.out _ (HBW.out.trans ((Hi.below _).mono HBW.out.size)))) | (go_at_call 16; exact Hi.calls (HT2.out _ (HBW.out.trans ((Hi.below _).mono HBW.out.size)))) | (go_at_call 17; exact Hi.calls (HAW.out _ (HBW.out.trans ((Hi.below _).mono HBW.out.size))))))
  refine wpQuiet_nil ?_
  intro _ hw
  obtain ⟨y, rfl⟩ := hw
  go_wp2
  go_ret
  exact ⟨rfl, HBW.out.trans (y.below.mono HBW.out.size)⟩

theorem cells_arrR {H : Type} {enc : TypeId × Value → H} {w : World} {base : Nat} {spare : Nat → Bool} {held : Bool} {fuel : Nat} {t : TypeId} {cs : List Value} {x : DataW H × List MemPlace} {n : Nat}
    (ht : Tryd.prog.underlying t = some (.array n 5)) (ct : Tryd.prog.cellsOf t = n) (ce : Tryd.prog.cellsOf 5 = 1) (h : DataW.trod enc Tryd.prog w base spare held fuel t cs = some x) :
    ∃ zs : List Int, zs.length = n ∧ cs = zs.map (fun z => Value.int .u8 z) ∧ ∀ z ∈ zs, 0 ≤ z ∧ z < 256 := by
  obtain ⟨xs, m, _, _, hl, hx, hi⟩ := DataW.trod_array ht h
  rw [ct] at hl
  have each : ∀ i, i < n → ∃ z : Int, cs[i]? = some (.int .u8 z) ∧ 0 ≤ z ∧ z < 256 := by
    intro i hin
    have h1 := hi i hin
    rw [ce, Nat.mul_one, List.getElem?_eq_getElem (by omega)] at h1
    obtain ⟨z, e, _, wf⟩ := DataW.trod_int Tryd.underlying5 h1
    have hb := bounds_u8 wf
    refine ⟨z, ?_, by omega, by omega⟩
    have e2 := congrArg (fun l : List Value => l[0]?) e
    simpa [List.getElem?_take, List.getElem?_drop] using e2
  refine ⟨cs.map intOf, by simpa using hl, ?_, ?_⟩
  · refine List.ext_getElem? fun i => ?_
    by_cases c : i < n
    · obtain ⟨z, hz, _⟩ := each i c
      simp [hz, intOf]
    · rw [List.getElem?_eq_none (by omega), List.getElem?_eq_none (by simp; omega)]
  · intro z hz
    obtain ⟨v, hv, rfl⟩ := List.mem_map.1 hz
    obtain ⟨i, hi', e⟩ := List.getElem_of_mem hv
    obtain ⟨z, hz2, hb⟩ := each i (by omega)
    rw [List.getElem?_eq_getElem hi', e] at hz2
    cases hz2
    exact hb
theorem agg_ofR {v : Value} {l : List Value} (h : v.cells.toList = l) (hl : 2 ≤ l.length) : v = .agg l.toArray := by
  cases v
  case agg cs => simp only [Value.cells] at h; rw [← h]
  all_goals (simp [Value.cells] at h; subst h; simp at hl)
set_option maxRecDepth 100000 in
theorem open_four {H : Type} {enc : TypeId × Value → H} {W : World} {v : Value} {d : DataW H} {p : List MemPlace} (h : DataW.Trod enc Tryd.prog W 0 (fun _ => true) true 23 v d p) :
    ∃ a0 a1 a2 a3, v = .agg #[.int .u8 a0, .int .u8 a1, .int .u8 a2, .int .u8 a3] ∧ Byte a0 ∧ Byte a1 ∧ Byte a2 ∧ Byte a3 := by
  obtain ⟨fuel, hf⟩ := h
  obtain ⟨zs, hl, hcs, hfit⟩ := cells_arrR Tryd.underlying23 (by kernel_rfl) (by kernel_rfl) hf
  have hv := agg_ofR hcs (by simp; omega)
  match zs, hl with
  | [x0, x1, x2, x3], _ => exact ⟨x0, x1, x2, x3, hv, hfit _ (by simp), hfit _ (by simp), hfit _ (by simp), hfit _ (by simp)⟩
set_option maxRecDepth 100000 in
theorem open_text {H : Type} {enc : TypeId × Value → H} {W : World} {base : Nat} {v : Value} {d : DataW H} {p : List MemPlace} (o : Value.okWide Tryd.prog W .any base 9 v) (h : DataW.Trod enc Tryd.prog W 0 (fun _ => true) true 9 v d p) (z : ∀ k ∈ d.weights Tryd.prog 9, k ≤ reachBytes) :
    ∃ s : ByteArray, v = .string s ∧ s.size ≤ 140737488351232 := by
  obtain ⟨s, rfl, rfl, _, _⟩ := Go.ChangeMaps.open_string Tryd.underlying9 o h
  refine ⟨s, rfl, ?_⟩
  have h1 := z s.data.toList.length (by simp [DataW.weights])
  have h2 : reachBytes = 140737488351232 := rfl
  rw [h2] at h1
  exact h1

set_option maxRecDepth 100000 in
theorem addrFours_open {H : Type} {enc : TypeId × Value → H} {W : World} {base : Nat} (tb : Tabs W ∧ Tz W) (v0 v1 : Value) {d0 d1 : DataW H} {p0 p1 : List MemPlace}
    (o0 : Value.okWide Tryd.prog W .any base 9 v0) (h0 : DataW.Trod enc Tryd.prog W 0 (fun _ => true) true 9 v0 d0 p0) (z0 : ∀ k ∈ d0.weights Tryd.prog 9, k ≤ reachBytes)
    (o1 : Value.okWide Tryd.prog W .any base 23 v1) (h1 : DataW.Trod enc Tryd.prog W 0 (fun _ => true) true 23 v1 d1 p1) (z1 : ∀ k ∈ d1.weights Tryd.prog 23, k ≤ reachBytes) :
    Calls Tryd.prog 3 #[v0, v1] W fun e w' => e = .returned (.bool true) ∧ Below W.heap.size W w' := by
  obtain ⟨s, rfl, hs⟩ := open_text o0 h0 z0
  obtain ⟨a0, a1, a2, a3, rfl, f0, f1, f2, f3⟩ := open_four h1
  exact addrFours_walk s (by omega) a0 a1 a2 a3 f0 f1 f2 f3 W tb

end Go.Proofs.YtopbbljnhnhpaaaDoor

namespace Go.Proofs.YtopbbljnhnhpaaaDoor
open Go Go.RowKit Go.ChangeShapes Go.WideShapes Go.ChangeAt
set_option linter.unusedVariables false
set_option linter.unusedSimpArgs false

theorem eq_arr16R (d : Nat) (zs ys : List Int) (h : FitB zs) (g : FitB ys) (hl : zs.length = 16) (gl : ys.length = 16) (W : World) :
    (Op.equalIn (d + 2) 31 (.agg (zs.map (fun z => Value.int .u8 z)).toArray) (.agg (ys.map (fun z => Value.int .u8 z)).toArray)).run Tryd.prog W = .ok (decide (zs = ys)) W := by
  have := run_equalIn_bytes (P := Tryd.prog) W d 31 5 16 Tryd.underlying31 Tryd.underlying5 (fun w => by simp [go_sem]) (zs.map (fun z => UInt8.ofNat z.toNat)) (ys.map (fun z => UInt8.ofNat z.toNat)) (by simpa using hl) (by simpa using gl)
  rw [bytes_inj zs ys h g] at this
  have e1 := cells_back zs h
  have e2 := cells_back ys g
  rw [← e1, ← e2]
  exact this

theorem back4 (a0 a1 a2 a3 : Int) (h0 : Byte a0) (h1 : Byte a1) (h2 : Byte a2) (h3 : Byte a3) (W : World) :
    Calls Tryd.prog 13 #[strV (text4 [a0, a1, a2, a3])] W fun e w' => e = .returned (.tuple #[.agg #[.int .u8 a0, .int .u8 a1, .int .u8 a2, .int .u8 a3], .int .i64 0, .int .i64 0]) ∧ Below W.heap.size W w' := by
  have hl : (text4 [a0, a1, a2, a3]).length ≤ 4004 := by
    rw [← tx4_all]
    have hk : ∀ k, k < 4 → Byte ([a0, a1, a2, a3][k]?.getD 0) := by
      intro k hk
      match k, hk with
      | 0, _ => exact h0
      | 1, _ => exact h1
      | 2, _ => exact h2
      | 3, _ => exact h3
    exact tx4_len hk 4 (by omega)
  have h := parse4_calls ⟨(text4 [a0, a1, a2, a3]).toArray⟩ (by show (text4 [a0, a1, a2, a3]).toArray.size ≤ _; rw [List.size_toArray]; omega) W
  have e : parse4 (⟨(text4 [a0, a1, a2, a3]).toArray⟩ : ByteArray).data.toList = ([a0, a1, a2, a3], 0, 0) := by
    show parse4 (text4 [a0, a1, a2, a3]).toArray.toList = _
    rw [List.toList_toArray]
    exact parse_text4 a0 a1 a2 a3 h0 h1 h2 h3
  rw [e] at h
  exact h

theorem grps_fit (b0 b1 b2 b3 b4 b5 b6 b7 b8 b9 b10 b11 b12 b13 b14 b15 : Int) (f0 : 0 ≤ b0 ∧ b0 < 256) (f1 : 0 ≤ b1 ∧ b1 < 256) (f2 : 0 ≤ b2 ∧ b2 < 256) (f3 : 0 ≤ b3 ∧ b3 < 256) (f4 : 0 ≤ b4 ∧ b4 < 256) (f5 : 0 ≤ b5 ∧ b5 < 256) (f6 : 0 ≤ b6 ∧ b6 < 256) (f7 : 0 ≤ b7 ∧ b7 < 256) (f8 : 0 ≤ b8 ∧ b8 < 256) (f9 : 0 ≤ b9 ∧ b9 < 256) (f10 : 0 ≤ b10 ∧ b10 < 256) (f11 : 0 ≤ b11 ∧ b11 < 256) (f12 : 0 ≤ b12 ∧ b12 < 256) (f13 : 0 ≤ b13 ∧ b13 < 256) (f14 : 0 ≤ b14 ∧ b14 < 256) (f15 : 0 ≤ b15 ∧ b15 < 256) : ∀ x ∈ [b0 * 256 + b1, b2 * 256 + b3, b4 * 256 + b5, b6 * 256 + b7, b8 * 256 + b9, b10 * 256 + b11, b12 * 256 + b13, b14 * 256 + b15], 0 ≤ x ∧ x < 65536 := by
  intro x hx
  simp only [List.mem_cons, List.not_mem_nil, or_false] at hx
  rcases hx with rfl | rfl | rfl | rfl | rfl | rfl | rfl | rfl <;> omega
theorem byt_groups (b0 b1 b2 b3 b4 b5 b6 b7 b8 b9 b10 b11 b12 b13 b14 b15 : Int) (f0 : 0 ≤ b0 ∧ b0 < 256) (f1 : 0 ≤ b1 ∧ b1 < 256) (f2 : 0 ≤ b2 ∧ b2 < 256) (f3 : 0 ≤ b3 ∧ b3 < 256) (f4 : 0 ≤ b4 ∧ b4 < 256) (f5 : 0 ≤ b5 ∧ b5 < 256) (f6 : 0 ≤ b6 ∧ b6 < 256) (f7 : 0 ≤ b7 ∧ b7 < 256) (f8 : 0 ≤ b8 ∧ b8 < 256) (f9 : 0 ≤ b9 ∧ b9 < 256) (f10 : 0 ≤ b10 ∧ b10 < 256) (f11 : 0 ≤ b11 ∧ b11 < 256) (f12 : 0 ≤ b12 ∧ b12 < 256) (f13 : 0 ≤ b13 ∧ b13 < 256) (f14 : 0 ≤ b14 ∧ b14 < 256) (f15 : 0 ≤ b15 ∧ b15 < 256) : byt [b0 * 256 + b1, b2 * 256 + b3, b4 * 256 + b5, b6 * 256 + b7, b8 * 256 + b9, b10 * 256 + b11, b12 * 256 + b13, b14 * 256 + b15] = [b0, b1, b2, b3, b4, b5, b6, b7, b8, b9, b10, b11, b12, b13, b14, b15] := by
  have hd : ∀ x y : Int, 0 ≤ x ∧ x < 256 → 0 ≤ y ∧ y < 256 → (x * 256 + y) / 256 = x ∧ (x * 256 + y) % 256 = y := fun x y hx hy => by omega
  simp only [byt, List.flatMap_cons, List.flatMap_nil, List.cons_append, List.nil_append, List.append_nil]
  rw [(hd b0 b1 f0 f1).1, (hd b0 b1 f0 f1).2]
  rw [(hd b2 b3 f2 f3).1, (hd b2 b3 f2 f3).2]
  rw [(hd b4 b5 f4 f5).1, (hd b4 b5 f4 f5).2]
  rw [(hd b6 b7 f6 f7).1, (hd b6 b7 f6 f7).2]
  rw [(hd b8 b9 f8 f9).1, (hd b8 b9 f8 f9).2]
  rw [(hd b10 b11 f10 f11).1, (hd b10 b11 f10 f11).2]
  rw [(hd b12 b13 f12 f13).1, (hd b12 b13 f12 f13).2]
  rw [(hd b14 b15 f14 f15).1, (hd b14 b15 f14 f15).2]
theorem own_len (G : List Int) (hl : G.length = 8) : (own6 G).length ≤ 202 := by
  unfold own6
  split
  · have := jn_len G (by omega); omega
  · have h1 := jn_len (G.take (gapK (zb G) 8).1) (by rw [List.length_take]; omega)
    have h2 := jn_len (G.drop (gapK (zb G) 8).2.1) (by rw [List.length_drop]; omega)
    simp only [List.length_append, List.length_cons, List.length_nil]
    omega
theorem back6 (b0 b1 b2 b3 b4 b5 b6 b7 b8 b9 b10 b11 b12 b13 b14 b15 : Int) (f0 : 0 ≤ b0 ∧ b0 < 256) (f1 : 0 ≤ b1 ∧ b1 < 256) (f2 : 0 ≤ b2 ∧ b2 < 256) (f3 : 0 ≤ b3 ∧ b3 < 256) (f4 : 0 ≤ b4 ∧ b4 < 256) (f5 : 0 ≤ b5 ∧ b5 < 256) (f6 : 0 ≤ b6 ∧ b6 < 256) (f7 : 0 ≤ b7 ∧ b7 < 256) (f8 : 0 ≤ b8 ∧ b8 < 256) (f9 : 0 ≤ b9 ∧ b9 < 256) (f10 : 0 ≤ b10 ∧ b10 < 256) (f11 : 0 ≤ b11 ∧ b11 < 256) (f12 : 0 ≤ b12 ∧ b12 < 256) (f13 : 0 ≤ b13 ∧ b13 < 256) (f14 : 0 ≤ b14 ∧ b14 < 256) (f15 : 0 ≤ b15 ∧ b15 < 256) (W : World) :
    Calls Tryd.prog 18 #[strV (own6 [b0 * 256 + b1, b2 * 256 + b3, b4 * 256 + b5, b6 * 256 + b7, b8 * 256 + b9, b10 * 256 + b11, b12 * 256 + b13, b14 * 256 + b15])] W fun e w' => e = .returned (.tuple #[.agg #[.int .u8 b0, .int .u8 b1, .int .u8 b2, .int .u8 b3, .int .u8 b4, .int .u8 b5, .int .u8 b6, .int .u8 b7, .int .u8 b8, .int .u8 b9, .int .u8 b10, .int .u8 b11, .int .u8 b12, .int .u8 b13, .int .u8 b14, .int .u8 b15], .int .i64 0, .int .i64 0]) ∧ Below W.heap.size W w' := by
  have hl := own_len [b0 * 256 + b1, b2 * 256 + b3, b4 * 256 + b5, b6 * 256 + b7, b8 * 256 + b9, b10 * 256 + b11, b12 * 256 + b13, b14 * 256 + b15] rfl
  have h := parse6_calls ⟨(own6 [b0 * 256 + b1, b2 * 256 + b3, b4 * 256 + b5, b6 * 256 + b7, b8 * 256 + b9, b10 * 256 + b11, b12 * 256 + b13, b14 * 256 + b15]).toArray⟩ (by show (own6 [b0 * 256 + b1, b2 * 256 + b3, b4 * 256 + b5, b6 * 256 + b7, b8 * 256 + b9, b10 * 256 + b11, b12 * 256 + b13, b14 * 256 + b15]).toArray.size ≤ _; rw [List.size_toArray]; omega) W
  have e : parse6 (⟨(own6 [b0 * 256 + b1, b2 * 256 + b3, b4 * 256 + b5, b6 * 256 + b7, b8 * 256 + b9, b10 * 256 + b11, b12 * 256 + b13, b14 * 256 + b15]).toArray⟩ : ByteArray).data.toList = ([b0, b1, b2, b3, b4, b5, b6, b7, b8, b9, b10, b11, b12, b13, b14, b15], 0, 0) := by
    show parse6 (own6 [b0 * 256 + b1, b2 * 256 + b3, b4 * 256 + b5, b6 * 256 + b7, b8 * 256 + b9, b10 * 256 + b11, b12 * 256 + b13, b14 * 256 + b15]).toArray.toList = _
    rw [List.toList_toArray, parse_own6 _ (grps_fit b0 b1 b2 b3 b4 b5 b6 b7 b8 b9 b10 b11 b12 b13 b14 b15 f0 f1 f2 f3 f4 f5 f6 f7 f8 f9 f10 f11 f12 f13 f14 f15) rfl, byt_groups b0 b1 b2 b3 b4 b5 b6 b7 b8 b9 b10 b11 b12 b13 b14 b15 f0 f1 f2 f3 f4 f5 f6 f7 f8 f9 f10 f11 f12 f13 f14 f15]
  rw [e] at h
  exact h
theorem own_inj (b0 b1 b2 b3 b4 b5 b6 b7 b8 b9 b10 b11 b12 b13 b14 b15 c0 c1 c2 c3 c4 c5 c6 c7 c8 c9 c10 c11 c12 c13 c14 c15 : Int) (f0 : 0 ≤ b0 ∧ b0 < 256) (f1 : 0 ≤ b1 ∧ b1 < 256) (f2 : 0 ≤ b2 ∧ b2 < 256) (f3 : 0 ≤ b3 ∧ b3 < 256) (f4 : 0 ≤ b4 ∧ b4 < 256) (f5 : 0 ≤ b5 ∧ b5 < 256) (f6 : 0 ≤ b6 ∧ b6 < 256) (f7 : 0 ≤ b7 ∧ b7 < 256) (f8 : 0 ≤ b8 ∧ b8 < 256) (f9 : 0 ≤ b9 ∧ b9 < 256) (f10 : 0 ≤ b10 ∧ b10 < 256) (f11 : 0 ≤ b11 ∧ b11 < 256) (f12 : 0 ≤ b12 ∧ b12 < 256) (f13 : 0 ≤ b13 ∧ b13 < 256) (f14 : 0 ≤ b14 ∧ b14 < 256) (f15 : 0 ≤ b15 ∧ b15 < 256) (g0 : 0 ≤ c0 ∧ c0 < 256) (g1 : 0 ≤ c1 ∧ c1 < 256) (g2 : 0 ≤ c2 ∧ c2 < 256) (g3 : 0 ≤ c3 ∧ c3 < 256) (g4 : 0 ≤ c4 ∧ c4 < 256) (g5 : 0 ≤ c5 ∧ c5 < 256) (g6 : 0 ≤ c6 ∧ c6 < 256) (g7 : 0 ≤ c7 ∧ c7 < 256) (g8 : 0 ≤ c8 ∧ c8 < 256) (g9 : 0 ≤ c9 ∧ c9 < 256) (g10 : 0 ≤ c10 ∧ c10 < 256) (g11 : 0 ≤ c11 ∧ c11 < 256) (g12 : 0 ≤ c12 ∧ c12 < 256) (g13 : 0 ≤ c13 ∧ c13 < 256) (g14 : 0 ≤ c14 ∧ c14 < 256) (g15 : 0 ≤ c15 ∧ c15 < 256) : own6 [b0 * 256 + b1, b2 * 256 + b3, b4 * 256 + b5, b6 * 256 + b7, b8 * 256 + b9, b10 * 256 + b11, b12 * 256 + b13, b14 * 256 + b15] = own6 [c0 * 256 + c1, c2 * 256 + c3, c4 * 256 + c5, c6 * 256 + c7, c8 * 256 + c9, c10 * 256 + c11, c12 * 256 + c13, c14 * 256 + c15] ↔ [b0, b1, b2, b3, b4, b5, b6, b7, b8, b9, b10, b11, b12, b13, b14, b15] = [c0, c1, c2, c3, c4, c5, c6, c7, c8, c9, c10, c11, c12, c13, c14, c15] := by
  constructor
  · intro h
    have h1 := parse_own6 _ (grps_fit b0 b1 b2 b3 b4 b5 b6 b7 b8 b9 b10 b11 b12 b13 b14 b15 f0 f1 f2 f3 f4 f5 f6 f7 f8 f9 f10 f11 f12 f13 f14 f15) rfl
    have h2 := parse_own6 _ (grps_fit c0 c1 c2 c3 c4 c5 c6 c7 c8 c9 c10 c11 c12 c13 c14 c15 g0 g1 g2 g3 g4 g5 g6 g7 g8 g9 g10 g11 g12 g13 g14 g15) rfl
    rw [h, h2, byt_groups b0 b1 b2 b3 b4 b5 b6 b7 b8 b9 b10 b11 b12 b13 b14 b15 f0 f1 f2 f3 f4 f5 f6 f7 f8 f9 f10 f11 f12 f13 f14 f15, byt_groups c0 c1 c2 c3 c4 c5 c6 c7 c8 c9 c10 c11 c12 c13 c14 c15 g0 g1 g2 g3 g4 g5 g6 g7 g8 g9 g10 g11 g12 g13 g14 g15] at h1
    exact (Prod.mk.inj h1).1.symm
  · intro h
    simp only [List.cons.injEq, and_true] at h
    obtain ⟨rfl, rfl, rfl, rfl, rfl, rfl, rfl, rfl, rfl, rfl, rfl, rfl, rfl, rfl, rfl, rfl⟩ := h
    rfl

end Go.Proofs.YtopbbljnhnhpaaaDoor

namespace Go.Proofs.YtopbbljnhnhpaaaDoor
open Go Go.RowKit Go.ChangeShapes Go.WideShapes Go.ChangeAt
set_option linter.unusedVariables false
set_option linter.unusedSimpArgs false

theorem bytes_ne (a b : List UInt8) (h : ¬ a = b) : ((⟨a.toArray⟩ : ByteArray) == (⟨b.toArray⟩ : ByteArray)) = false := by
  have : (a.toArray == b.toArray) = false := by rw [beq_eq_false_iff_ne]; intro e; exact h (by simpa using e)
  exact this

set_option maxHeartbeats 8000000 in
set_option maxRecDepth 100000 in
theorem addrBack_walk (a0 a1 a2 a3 b0 b1 b2 b3 b4 b5 b6 b7 b8 b9 b10 b11 b12 b13 b14 b15 c0 c1 c2 c3 c4 c5 c6 c7 c8 c9 c10 c11 c12 c13 c14 c15 : Int) (h0 : Byte a0) (h1 : Byte a1) (h2 : Byte a2) (h3 : Byte a3) (f0 : 0 ≤ b0 ∧ b0 < 256) (f1 : 0 ≤ b1 ∧ b1 < 256) (f2 : 0 ≤ b2 ∧ b2 < 256) (f3 : 0 ≤ b3 ∧ b3 < 256) (f4 : 0 ≤ b4 ∧ b4 < 256) (f5 : 0 ≤ b5 ∧ b5 < 256) (f6 : 0 ≤ b6 ∧ b6 < 256) (f7 : 0 ≤ b7 ∧ b7 < 256) (f8 : 0 ≤ b8 ∧ b8 < 256) (f9 : 0 ≤ b9 ∧ b9 < 256) (f10 : 0 ≤ b10 ∧ b10 < 256) (f11 : 0 ≤ b11 ∧ b11 < 256) (f12 : 0 ≤ b12 ∧ b12 < 256) (f13 : 0 ≤ b13 ∧ b13 < 256) (f14 : 0 ≤ b14 ∧ b14 < 256) (f15 : 0 ≤ b15 ∧ b15 < 256) (g0 : 0 ≤ c0 ∧ c0 < 256) (g1 : 0 ≤ c1 ∧ c1 < 256) (g2 : 0 ≤ c2 ∧ c2 < 256) (g3 : 0 ≤ c3 ∧ c3 < 256) (g4 : 0 ≤ c4 ∧ c4 < 256) (g5 : 0 ≤ c5 ∧ c5 < 256) (g6 : 0 ≤ c6 ∧ c6 < 256) (g7 : 0 ≤ c7 ∧ c7 < 256) (g8 : 0 ≤ c8 ∧ c8 < 256) (g9 : 0 ≤ c9 ∧ c9 < 256) (g10 : 0 ≤ c10 ∧ c10 < 256) (g11 : 0 ≤ c11 ∧ c11 < 256) (g12 : 0 ≤ c12 ∧ c12 < 256) (g13 : 0 ≤ c13 ∧ c13 < 256) (g14 : 0 ≤ c14 ∧ c14 < 256) (g15 : 0 ≤ c15 ∧ c15 < 256) (w : World) (tb : Tabs w ∧ Tz w) :
    Calls Tryd.prog 9 #[.agg #[.int .u8 a0, .int .u8 a1, .int .u8 a2, .int .u8 a3], .agg #[.int .u8 b0, .int .u8 b1, .int .u8 b2, .int .u8 b3, .int .u8 b4, .int .u8 b5, .int .u8 b6, .int .u8 b7, .int .u8 b8, .int .u8 b9, .int .u8 b10, .int .u8 b11, .int .u8 b12, .int .u8 b13, .int .u8 b14, .int .u8 b15], .agg #[.int .u8 c0, .int .u8 c1, .int .u8 c2, .int .u8 c3, .int .u8 c4, .int .u8 c5, .int .u8 c6, .int .u8 c7, .int .u8 c8, .int .u8 c9, .int .u8 c10, .int .u8 c11, .int .u8 c12, .int .u8 c13, .int .u8 c14, .int .u8 c15]] w fun e w' => e = .returned (.bool true) ∧ Below w.heap.size w w' := by
  have HT4 : Hid (∀ W, Below w.heap.size w W → Calls Tryd.prog 15 #[.agg #[.int .u8 a0, .int .u8 a1, .int .u8 a2, .int .u8 a3]] W fun e w' => e = .returned (strV (text4 [a0, a1, a2, a3])) ∧ Below W.heap.size W w') := fun W hW => text4_calls a0 a1 a2 a3 h0 h1 h2 h3 W (Tabs.on tb.1 hW)
  have HP4 : Hid (∀ W, Calls Tryd.prog 13 #[strV (text4 [a0, a1, a2, a3])] W fun e w' => e = .returned (.tuple #[.agg #[.int .u8 a0, .int .u8 a1, .int .u8 a2, .int .u8 a3], .int .i64 0, .int .i64 0]) ∧ Below W.heap.size W w') := fun W => back4 a0 a1 a2 a3 h0 h1 h2 h3 W
  have HTB : Hid (∀ W, Below w.heap.size w W → Calls Tryd.prog 20 #[.agg #[.int .u8 b0, .int .u8 b1, .int .u8 b2, .int .u8 b3, .int .u8 b4, .int .u8 b5, .int .u8 b6, .int .u8 b7, .int .u8 b8, .int .u8 b9, .int .u8 b10, .int .u8 b11, .int .u8 b12, .int .u8 b13, .int .u8 b14, .int .u8 b15]] W fun e w' => e = .returned (strV (own6 [b0 * 256 + b1, b2 * 256 + b3, b4 * 256 + b5, b6 * 256 + b7, b8 * 256 + b9, b10 * 256 + b11, b12 * 256 + b13, b14 * 256 + b15])) ∧ Below W.heap.size W w') := fun W hW => text6_all b0 b1 b2 b3 b4 b5 b6 b7 b8 b9 b10 b11 b12 b13 b14 b15 f0 f1 f2 f3 f4 f5 f6 f7 f8 f9 f10 f11 f12 f13 f14 f15 W (Tz.on tb.2 hW)
  have HTC : Hid (∀ W, Below w.heap.size w W → Calls Tryd.prog 20 #[.agg #[.int .u8 c0, .int .u8 c1, .int .u8 c2, .int .u8 c3, .int .u8 c4, .int .u8 c5, .int .u8 c6, .int .u8 c7, .int .u8 c8, .int .u8 c9, .int .u8 c10, .int .u8 c11, .int .u8 c12, .int .u8 c13, .int .u8 c14, .int .u8 c15]] W fun e w' => e = .returned (strV (own6 [c0 * 256 + c1, c2 * 256 + c3, c4 * 256 + c5, c6 * 256 + c7, c8 * 256 + c9, c10 * 256 + c11, c12 * 256 + c13, c14 * 256 + c15])) ∧ Below W.heap.size W w') := fun W hW => text6_all c0 c1 c2 c3 c4 c5 c6 c7 c8 c9 c10 c11 c12 c13 c14 c15 g0 g1 g2 g3 g4 g5 g6 g7 g8 g9 g10 g11 g12 g13 g14 g15 W (Tz.on tb.2 hW)
  have HP6 : Hid (∀ W, Calls Tryd.prog 18 #[strV (own6 [b0 * 256 + b1, b2 * 256 + b3, b4 * 256 + b5, b6 * 256 + b7, b8 * 256 + b9, b10 * 256 + b11, b12 * 256 + b13, b14 * 256 + b15])] W fun e w' => e = .returned (.tuple #[.agg #[.int .u8 b0, .int .u8 b1, .int .u8 b2, .int .u8 b3, .int .u8 b4, .int .u8 b5, .int .u8 b6, .int .u8 b7, .int .u8 b8, .int .u8 b9, .int .u8 b10, .int .u8 b11, .int .u8 b12, .int .u8 b13, .int .u8 b14, .int .u8 b15], .int .i64 0, .int .i64 0]) ∧ Below W.heap.size W w') := fun W => back6 b0 b1 b2 b3 b4 b5 b6 b7 b8 b9 b10 b11 b12 b13 b14 b15 f0 f1 f2 f3 f4 f5 f6 f7 f8 f9 f10 f11 f12 f13 f14 f15 W
  have HAW : Hid (∀ W, Below w.heap.size w W → Calls Tryd.prog 17 #[] W fun e w' => e = .returned (.bool true) ∧ Below W.heap.size W w') := fun W hW => Awake.on tb W hW
  have HI : Hid _ := own_inj b0 b1 b2 b3 b4 b5 b6 b7 b8 b9 b10 b11 b12 b13 b14 b15 c0 c1 c2 c3 c4 c5 c6 c7 c8 c9 c10 c11 c12 c13 c14 c15 f0 f1 f2 f3 f4 f5 f6 f7 f8 f9 f10 f11 f12 f13 f14 f15 g0 g1 g2 g3 g4 g5 g6 g7 g8 g9 g10 g11 g12 g13 g14 g15
  have hfa : FitB [a0, a1, a2, a3] := fun z hz => by
    simp only [List.mem_cons, List.not_mem_nil, or_false] at hz
    rcases hz with rfl | rfl | rfl | rfl <;> assumption
  have hfb : FitB [b0, b1, b2, b3, b4, b5, b6, b7, b8, b9, b10, b11, b12, b13, b14, b15] := fun z hz => by
    simp only [List.mem_cons, List.not_mem_nil, or_false] at hz
    rcases hz with rfl | rfl | rfl | rfl | rfl | rfl | rfl | rfl | rfl | rfl | rfl | rfl | rfl | rfl | rfl | rfl <;> assumption
  have hfc : FitB [c0, c1, c2, c3, c4, c5, c6, c7, c8, c9, c10, c11, c12, c13, c14, c15] := fun z hz => by
    simp only [List.mem_cons, List.not_mem_nil, or_false] at hz
    rcases hz with rfl | rfl | rfl | rfl | rfl | rfl | rfl | rfl | rfl | rfl | rfl | rfl | rfl | rfl | rfl | rfl <;> assumption
  generalize text4 [a0, a1, a2, a3] = T4 at *
  generalize own6 [b0 * 256 + b1, b2 * 256 + b3, b4 * 256 + b5, b6 * 256 + b7, b8 * 256 + b9, b10 * 256 + b11, b12 * 256 + b13, b14 * 256 + b15] = TB at *
  generalize own6 [c0 * 256 + c1, c2 * 256 + c3, c4 * 256 + c5, c6 * 256 + c7, c8 * 256 + c9, c10 * 256 + c11, c12 * 256 + c13, c14 * 256 + c15] = TC at *
  have ea9997 : ∀ W, (Op.equalIn 9999 23 (.agg #[.int .u8 a0, .int .u8 a1, .int .u8 a2, .int .u8 a3]) (.agg #[.int .u8 a0, .int .u8 a1, .int .u8 a2, .int .u8 a3])).run Tryd.prog W = .ok true W := fun W => by
    have := eq_arr4 9997 [a0, a1, a2, a3] [a0, a1, a2, a3] hfa hfa rfl rfl W
    rwa [decide_eq_true rfl] at this
  have eb9997 : ∀ W, (Op.equalIn 9999 31 (.agg #[.int .u8 b0, .int .u8 b1, .int .u8 b2, .int .u8 b3, .int .u8 b4, .int .u8 b5, .int .u8 b6, .int .u8 b7, .int .u8 b8, .int .u8 b9, .int .u8 b10, .int .u8 b11, .int .u8 b12, .int .u8 b13, .int .u8 b14, .int .u8 b15]) (.agg #[.int .u8 b0, .int .u8 b1, .int .u8 b2, .int .u8 b3, .int .u8 b4, .int .u8 b5, .int .u8 b6, .int .u8 b7, .int .u8 b8, .int .u8 b9, .int .u8 b10, .int .u8 b11, .int .u8 b12, .int .u8 b13, .int .u8 b14, .int .u8 b15])).run Tryd.prog W = .ok true W := fun W => by
    have := eq_arr16R 9997 [b0, b1, b2, b3, b4, b5, b6, b7, b8, b9, b10, b11, b12, b13, b14, b15] [b0, b1, b2, b3, b4, b5, b6, b7, b8, b9, b10, b11, b12, b13, b14, b15] hfb hfb rfl rfl W
    rwa [decide_eq_true rfl] at this
  have ec9997 : Hid (∀ W, (Op.equalIn 9999 31 (.agg #[.int .u8 b0, .int .u8 b1, .int .u8 b2, .int .u8 b3, .int .u8 b4, .int .u8 b5, .int .u8 b6, .int .u8 b7, .int .u8 b8, .int .u8 b9, .int .u8 b10, .int .u8 b11, .int .u8 b12, .int .u8 b13, .int .u8 b14, .int .u8 b15]) (.agg #[.int .u8 c0, .int .u8 c1, .int .u8 c2, .int .u8 c3, .int .u8 c4, .int .u8 c5, .int .u8 c6, .int .u8 c7, .int .u8 c8, .int .u8 c9, .int .u8 c10, .int .u8 c11, .int .u8 c12, .int .u8 c13, .int .u8 c14, .int .u8 c15])).run Tryd.prog W = .ok (decide ([b0, b1, b2, b3, b4, b5, b6, b7, b8, b9, b10, b11, b12, b13, b14, b15] = [c0, c1, c2, c3, c4, c5, c6, c7, c8, c9, c10, c11, c12, c13, c14, c15])) W) := fun W => eq_arr16R 9997 [b0, b1, b2, b3, b4, b5, b6, b7, b8, b9, b10, b11, b12, b13, b14, b15] [c0, c1, c2, c3, c4, c5, c6, c7, c8, c9, c10, c11, c12, c13, c14, c15] hfb hfc rfl rfl W
  have ea9998 : ∀ W, (Op.equalIn 10000 23 (.agg #[.int .u8 a0, .int .u8 a1, .int .u8 a2, .int .u8 a3]) (.agg #[.int .u8 a0, .int .u8 a1, .int .u8 a2, .int .u8 a3])).run Tryd.prog W = .ok true W := fun W => by
    have := eq_arr4 9998 [a0, a1, a2, a3] [a0, a1, a2, a3] hfa hfa rfl rfl W
    rwa [decide_eq_true rfl] at this
  have eb9998 : ∀ W, (Op.equalIn 10000 31 (.agg #[.int .u8 b0, .int .u8 b1, .int .u8 b2, .int .u8 b3, .int .u8 b4, .int .u8 b5, .int .u8 b6, .int .u8 b7, .int .u8 b8, .int .u8 b9, .int .u8 b10, .int .u8 b11, .int .u8 b12, .int .u8 b13, .int .u8 b14, .int .u8 b15]) (.agg #[.int .u8 b0, .int .u8 b1, .int .u8 b2, .int .u8 b3, .int .u8 b4, .int .u8 b5, .int .u8 b6, .int .u8 b7, .int .u8 b8, .int .u8 b9, .int .u8 b10, .int .u8 b11, .int .u8 b12, .int .u8 b13, .int .u8 b14, .int .u8 b15])).run Tryd.prog W = .ok true W := fun W => by
    have := eq_arr16R 9998 [b0, b1, b2, b3, b4, b5, b6, b7, b8, b9, b10, b11, b12, b13, b14, b15] [b0, b1, b2, b3, b4, b5, b6, b7, b8, b9, b10, b11, b12, b13, b14, b15] hfb hfb rfl rfl W
    rwa [decide_eq_true rfl] at this
  have ec9998 : Hid (∀ W, (Op.equalIn 10000 31 (.agg #[.int .u8 b0, .int .u8 b1, .int .u8 b2, .int .u8 b3, .int .u8 b4, .int .u8 b5, .int .u8 b6, .int .u8 b7, .int .u8 b8, .int .u8 b9, .int .u8 b10, .int .u8 b11, .int .u8 b12, .int .u8 b13, .int .u8 b14, .int .u8 b15]) (.agg #[.int .u8 c0, .int .u8 c1, .int .u8 c2, .int .u8 c3, .int .u8 c4, .int .u8 c5, .int .u8 c6, .int .u8 c7, .int .u8 c8, .int .u8 c9, .int .u8 c10, .int .u8 c11, .int .u8 c12, .int .u8 c13, .int .u8 c14, .int .u8 c15])).run Tryd.prog W = .ok (decide ([b0, b1, b2, b3, b4, b5, b6, b7, b8, b9, b10, b11, b12, b13, b14, b15] = [c0, c1, c2, c3, c4, c5, c6, c7, c8, c9, c10, c11, c12, c13, c14, c15])) W) := fun W => eq_arr16R 9998 [b0, b1, b2, b3, b4, b5, b6, b7, b8, b9, b10, b11, b12, b13, b14, b15] [c0, c1, c2, c3, c4, c5, c6, c7, c8, c9, c10, c11, c12, c13, c14, c15] hfb hfc rfl rfl W
  have hk1 := blk_new w (.cells #[.int .u8 a0, .int .u8 a1, .int .u8 a2, .int .u8 a3] 23)
  have hk2 := blk_alloc hk1 (.cells #[.int .u8 b0, .int .u8 b1, .int .u8 b2, .int .u8 b3, .int .u8 b4, .int .u8 b5, .int .u8 b6, .int .u8 b7, .int .u8 b8, .int .u8 b9, .int .u8 b10, .int .u8 b11, .int .u8 b12, .int .u8 b13, .int .u8 b14, .int .u8 b15] 31)
  have hb1 := blk_new (w.alloc (.cells #[.int .u8 a0, .int .u8 a1, .int .u8 a2, .int .u8 a3] 23)) (.cells #[.int .u8 b0, .int .u8 b1, .int .u8 b2, .int .u8 b3, .int .u8 b4, .int .u8 b5, .int .u8 b6, .int .u8 b7, .int .u8 b8, .int .u8 b9, .int .u8 b10, .int .u8 b11, .int .u8 b12, .int .u8 b13, .int .u8 b14, .int .u8 b15] 31)
  have hk3 := blk_alloc hk2 (.cells #[.int .u8 c0, .int .u8 c1, .int .u8 c2, .int .u8 c3, .int .u8 c4, .int .u8 c5, .int .u8 c6, .int .u8 c7, .int .u8 c8, .int .u8 c9, .int .u8 c10, .int .u8 c11, .int .u8 c12, .int .u8 c13, .int .u8 c14, .int .u8 c15] 31)
  have hb2 := blk_alloc hb1 (.cells #[.int .u8 c0, .int .u8 c1, .int .u8 c2, .int .u8 c3, .int .u8 c4, .int .u8 c5, .int .u8 c6, .int .u8 c7, .int .u8 c8, .int .u8 c9, .int .u8 c10, .int .u8 c11, .int .u8 c12, .int .u8 c13, .int .u8 c14, .int .u8 c15] 31)
  have hc1 := blk_new ((w.alloc (.cells #[.int .u8 a0, .int .u8 a1, .int .u8 a2, .int .u8 a3] 23)).alloc (.cells #[.int .u8 b0, .int .u8 b1, .int .u8 b2, .int .u8 b3, .int .u8 b4, .int .u8 b5, .int .u8 b6, .int .u8 b7, .int .u8 b8, .int .u8 b9, .int .u8 b10, .int .u8 b11, .int .u8 b12, .int .u8 b13, .int .u8 b14, .int .u8 b15] 31)) (.cells #[.int .u8 c0, .int .u8 c1, .int .u8 c2, .int .u8 c3, .int .u8 c4, .int .u8 c5, .int .u8 c6, .int .u8 c7, .int .u8 c8, .int .u8 c9, .int .u8 c10, .int .u8 c11, .int .u8 c12, .int .u8 c13, .int .u8 c14, .int .u8 c15] 31)
  have hB1 := (Below.refl w.heap.size w).alloc (Nat.le_refl _) (.cells #[.int .u8 a0, .int .u8 a1, .int .u8 a2, .int .u8 a3] 23)
  have hB2 := hB1.alloc hB1.size (.cells #[.int .u8 b0, .int .u8 b1, .int .u8 b2, .int .u8 b3, .int .u8 b4, .int .u8 b5, .int .u8 b6, .int .u8 b7, .int .u8 b8, .int .u8 b9, .int .u8 b10, .int .u8 b11, .int .u8 b12, .int .u8 b13, .int .u8 b14, .int .u8 b15] 31)
  have hB3 := hB2.alloc hB2.size (.cells #[.int .u8 c0, .int .u8 c1, .int .u8 c2, .int .u8 c3, .int .u8 c4, .int .u8 c5, .int .u8 c6, .int .u8 c7, .int .u8 c8, .int .u8 c9, .int .u8 c10, .int .u8 c11, .int .u8 c12, .int .u8 c13, .int .u8 c14, .int .u8 c15] 31)
  have z1 : (w.alloc (.cells #[.int .u8 a0, .int .u8 a1, .int .u8 a2, .int .u8 a3] 23)).heap.size = w.heap.size + 1 := by simp
  have z2 : ((w.alloc (.cells #[.int .u8 a0, .int .u8 a1, .int .u8 a2, .int .u8 a3] 23)).alloc (.cells #[.int .u8 b0, .int .u8 b1, .int .u8 b2, .int .u8 b3, .int .u8 b4, .int .u8 b5, .int .u8 b6, .int .u8 b7, .int .u8 b8, .int .u8 b9, .int .u8 b10, .int .u8 b11, .int .u8 b12, .int .u8 b13, .int .u8 b14, .int .u8 b15] 31)).heap.size = w.heap.size + 1 + 1 := by simp
  rw [z1] at hb2
  rw [z2] at hc1
  clear hk1 hk2 hb1 hB1 hB2 z1 z2 tb hfa hfb hfc h0 h1 h2 h3 f0 f1 f2 f3 f4 f5 f6 f7 f8 f9 f10 f11 f12 f13 f14 f15 g0 g1 g2 g3 g4 g5 g6 g7 g8 g9 g10 g11 g12 g13 g14 g15
  go_enter Tryd.func9, Tryd.ntmps9
  go_wp2_with fail
  generalize ((w.alloc (.cells #[.int .u8 a0, .int .u8 a1, .int .u8 a2, .int .u8 a3] 23)).alloc (.cells #[.int .u8 b0, .int .u8 b1, .int .u8 b2, .int .u8 b3, .int .u8 b4, .int .u8 b5, .int .u8 b6, .int .u8 b7, .int .u8 b8, .int .u8 b9, .int .u8 b10, .int .u8 b11, .int .u8 b12, .int .u8 b13, .int .u8 b14, .int .u8 b15] 31)).alloc (.cells #[.int .u8 c0, .int .u8 c1, .int .u8 c2, .int .u8 c3, .int .u8 c4, .int .u8 c5, .int .u8 c6, .int .u8 c7, .int .u8 c8, .int .u8 c9, .int .u8 c10, .int .u8 c11, .int .u8 c12, .int .u8 c13, .int .u8 c14, .int .u8 c15] 31) = W3 at *
  refine (HT4.out _ hB3).mono ?_
  rintro e w1 ⟨rfl, hB⟩
  have hB4 := hB3.trans (hB.mono hB3.size)
  have ka := blk_on hk3 hB
  have kb := blk_on hb2 hB
  have kc := blk_on hc1 hB
  clear hk3 hb2 hc1 hB hB3 HT4
  go_wp2_with fail
  refine (HP4.out _).mono ?_
  rintro e w2 ⟨rfl, hB⟩
  have hB5 := hB4.trans (hB.mono hB4.size)
  have hB6 := hB5.alloc hB5.size (.cells #[.int .u8 a0, .int .u8 a1, .int .u8 a2, .int .u8 a3] 23)
  have hx := blk_new w2 (.cells #[.int .u8 a0, .int .u8 a1, .int .u8 a2, .int .u8 a3] 23)
  have ka2 := blk_alloc (blk_on ka hB) (.cells #[.int .u8 a0, .int .u8 a1, .int .u8 a2, .int .u8 a3] 23)
  have kb2 := blk_alloc (blk_on kb hB) (.cells #[.int .u8 a0, .int .u8 a1, .int .u8 a2, .int .u8 a3] 23)
  have kc2 := blk_alloc (blk_on kc hB) (.cells #[.int .u8 a0, .int .u8 a1, .int .u8 a2, .int .u8 a3] 23)
  have ux : (w2.alloc (.cells #[.int .u8 a0, .int .u8 a1, .int .u8 a2, .int .u8 a3] 23)).heap.size = w2.heap.size + 1 := by simp
  clear ka kb kc hB hB4 hB5 HP4
  have q0 : (w2.alloc (.cells #[.int .u8 a0, .int .u8 a1, .int .u8 a2, .int .u8 a3] 23)).cell? ⟨w.heap.size + 1, 0, none⟩ = some (.int .u8 b0) := blk_cell kb2 rfl
  have q1 : (w2.alloc (.cells #[.int .u8 a0, .int .u8 a1, .int .u8 a2, .int .u8 a3] 23)).cell? ⟨w.heap.size + 1, 1, none⟩ = some (.int .u8 b1) := blk_cell kb2 rfl
  have q2 : (w2.alloc (.cells #[.int .u8 a0, .int .u8 a1, .int .u8 a2, .int .u8 a3] 23)).cell? ⟨w.heap.size + 1, 2, none⟩ = some (.int .u8 b2) := blk_cell kb2 rfl
  have q3 : (w2.alloc (.cells #[.int .u8 a0, .int .u8 a1, .int .u8 a2, .int .u8 a3] 23)).cell? ⟨w.heap.size + 1, 3, none⟩ = some (.int .u8 b3) := blk_cell kb2 rfl
  have q4 : (w2.alloc (.cells #[.int .u8 a0, .int .u8 a1, .int .u8 a2, .int .u8 a3] 23)).cell? ⟨w.heap.size + 1, 4, none⟩ = some (.int .u8 b4) := blk_cell kb2 rfl
  have q5 : (w2.alloc (.cells #[.int .u8 a0, .int .u8 a1, .int .u8 a2, .int .u8 a3] 23)).cell? ⟨w.heap.size + 1, 5, none⟩ = some (.int .u8 b5) := blk_cell kb2 rfl
  have q6 : (w2.alloc (.cells #[.int .u8 a0, .int .u8 a1, .int .u8 a2, .int .u8 a3] 23)).cell? ⟨w.heap.size + 1, 6, none⟩ = some (.int .u8 b6) := blk_cell kb2 rfl
  have q7 : (w2.alloc (.cells #[.int .u8 a0, .int .u8 a1, .int .u8 a2, .int .u8 a3] 23)).cell? ⟨w.heap.size + 1, 7, none⟩ = some (.int .u8 b7) := blk_cell kb2 rfl
  have q8 : (w2.alloc (.cells #[.int .u8 a0, .int .u8 a1, .int .u8 a2, .int .u8 a3] 23)).cell? ⟨w.heap.size + 1, 8, none⟩ = some (.int .u8 b8) := blk_cell kb2 rfl
  have q9 : (w2.alloc (.cells #[.int .u8 a0, .int .u8 a1, .int .u8 a2, .int .u8 a3] 23)).cell? ⟨w.heap.size + 1, 9, none⟩ = some (.int .u8 b9) := blk_cell kb2 rfl
  have q10 : (w2.alloc (.cells #[.int .u8 a0, .int .u8 a1, .int .u8 a2, .int .u8 a3] 23)).cell? ⟨w.heap.size + 1, 10, none⟩ = some (.int .u8 b10) := blk_cell kb2 rfl
  have q11 : (w2.alloc (.cells #[.int .u8 a0, .int .u8 a1, .int .u8 a2, .int .u8 a3] 23)).cell? ⟨w.heap.size + 1, 11, none⟩ = some (.int .u8 b11) := blk_cell kb2 rfl
  have q12 : (w2.alloc (.cells #[.int .u8 a0, .int .u8 a1, .int .u8 a2, .int .u8 a3] 23)).cell? ⟨w.heap.size + 1, 12, none⟩ = some (.int .u8 b12) := blk_cell kb2 rfl
  have q13 : (w2.alloc (.cells #[.int .u8 a0, .int .u8 a1, .int .u8 a2, .int .u8 a3] 23)).cell? ⟨w.heap.size + 1, 13, none⟩ = some (.int .u8 b13) := blk_cell kb2 rfl
  have q14 : (w2.alloc (.cells #[.int .u8 a0, .int .u8 a1, .int .u8 a2, .int .u8 a3] 23)).cell? ⟨w.heap.size + 1, 14, none⟩ = some (.int .u8 b14) := blk_cell kb2 rfl
  have q15 : (w2.alloc (.cells #[.int .u8 a0, .int .u8 a1, .int .u8 a2, .int .u8 a3] 23)).cell? ⟨w.heap.size + 1, 15, none⟩ = some (.int .u8 b15) := blk_cell kb2 rfl
  go_wp2_with fail
  generalize w2.alloc (.cells #[.int .u8 a0, .int .u8 a1, .int .u8 a2, .int .u8 a3] 23) = W4 at *
  refine (HTB.out _ hB6).mono ?_
  rintro e w3 ⟨rfl, hB⟩
  have hB7 := hB6.trans (hB.mono hB6.size)
  have ka3 := blk_on ka2 hB
  have kb3 := blk_on kb2 hB
  have kc3 := blk_on kc2 hB
  have hx3 := blk_on hx hB
  clear ka2 kb2 kc2 hx hB hB6 ux q0 q1 q2 q3 q4 q5 q6 q7 q8 q9 q10 q11 q12 q13 q14 q15
  go_wp2_with fail
  refine (HP6.out _).mono ?_
  rintro e w4 ⟨rfl, hB⟩
  have hB8 := hB7.trans (hB.mono hB7.size)
  have hB9 := hB8.alloc hB8.size (.cells #[.int .u8 b0, .int .u8 b1, .int .u8 b2, .int .u8 b3, .int .u8 b4, .int .u8 b5, .int .u8 b6, .int .u8 b7, .int .u8 b8, .int .u8 b9, .int .u8 b10, .int .u8 b11, .int .u8 b12, .int .u8 b13, .int .u8 b14, .int .u8 b15] 31)
  have hy := blk_new w4 (.cells #[.int .u8 b0, .int .u8 b1, .int .u8 b2, .int .u8 b3, .int .u8 b4, .int .u8 b5, .int .u8 b6, .int .u8 b7, .int .u8 b8, .int .u8 b9, .int .u8 b10, .int .u8 b11, .int .u8 b12, .int .u8 b13, .int .u8 b14, .int .u8 b15] 31)
  have ka4 := blk_alloc (blk_on ka3 hB) (.cells #[.int .u8 b0, .int .u8 b1, .int .u8 b2, .int .u8 b3, .int .u8 b4, .int .u8 b5, .int .u8 b6, .int .u8 b7, .int .u8 b8, .int .u8 b9, .int .u8 b10, .int .u8 b11, .int .u8 b12, .int .u8 b13, .int .u8 b14, .int .u8 b15] 31)
  have kb4 := blk_alloc (blk_on kb3 hB) (.cells #[.int .u8 b0, .int .u8 b1, .int .u8 b2, .int .u8 b3, .int .u8 b4, .int .u8 b5, .int .u8 b6, .int .u8 b7, .int .u8 b8, .int .u8 b9, .int .u8 b10, .int .u8 b11, .int .u8 b12, .int .u8 b13, .int .u8 b14, .int .u8 b15] 31)
  have kc4 := blk_alloc (blk_on kc3 hB) (.cells #[.int .u8 b0, .int .u8 b1, .int .u8 b2, .int .u8 b3, .int .u8 b4, .int .u8 b5, .int .u8 b6, .int .u8 b7, .int .u8 b8, .int .u8 b9, .int .u8 b10, .int .u8 b11, .int .u8 b12, .int .u8 b13, .int .u8 b14, .int .u8 b15] 31)
  have hx4 := blk_alloc (blk_on hx3 hB) (.cells #[.int .u8 b0, .int .u8 b1, .int .u8 b2, .int .u8 b3, .int .u8 b4, .int .u8 b5, .int .u8 b6, .int .u8 b7, .int .u8 b8, .int .u8 b9, .int .u8 b10, .int .u8 b11, .int .u8 b12, .int .u8 b13, .int .u8 b14, .int .u8 b15] 31)
  clear ka3 kb3 kc3 hx3 hB hB7 hB8 HP6
  have HBW : Hid _ := hB9
  have HLA : Hid _ := fun y : Hi (w4.alloc (.cells #[.int .u8 b0, .int .u8 b1, .int .u8 b2, .int .u8 b3, .int .u8 b4, .int .u8 b5, .int .u8 b6, .int .u8 b7, .int .u8 b8, .int .u8 b9, .int .u8 b10, .int .u8 b11, .int .u8 b12, .int .u8 b13, .int .u8 b14, .int .u8 b15] 31)) => agg_load (t := 23) Tryd.isAgg23 Tryd.sizeOf23 rfl (CellsAt.of_blk (Hi.blk ka4 y))
  have HLX : Hid _ := fun y : Hi (w4.alloc (.cells #[.int .u8 b0, .int .u8 b1, .int .u8 b2, .int .u8 b3, .int .u8 b4, .int .u8 b5, .int .u8 b6, .int .u8 b7, .int .u8 b8, .int .u8 b9, .int .u8 b10, .int .u8 b11, .int .u8 b12, .int .u8 b13, .int .u8 b14, .int .u8 b15] 31)) => agg_load (t := 23) Tryd.isAgg23 Tryd.sizeOf23 rfl (CellsAt.of_blk (Hi.blk hx4 y))
  have HLB : Hid _ := fun y : Hi (w4.alloc (.cells #[.int .u8 b0, .int .u8 b1, .int .u8 b2, .int .u8 b3, .int .u8 b4, .int .u8 b5, .int .u8 b6, .int .u8 b7, .int .u8 b8, .int .u8 b9, .int .u8 b10, .int .u8 b11, .int .u8 b12, .int .u8 b13, .int .u8 b14, .int .u8 b15] 31)) => agg_load (t := 31) Tryd.isAgg31 Tryd.sizeOf31 rfl (CellsAt.of_blk (Hi.blk kb4 y))
  have HLC : Hid _ := fun y : Hi (w4.alloc (.cells #[.int .u8 b0, .int .u8 b1, .int .u8 b2, .int .u8 b3, .int .u8 b4, .int .u8 b5, .int .u8 b6, .int .u8 b7, .int .u8 b8, .int .u8 b9, .int .u8 b10, .int .u8 b11, .int .u8 b12, .int .u8 b13, .int .u8 b14, .int .u8 b15] 31)) => agg_load (t := 31) Tryd.isAgg31 Tryd.sizeOf31 rfl (CellsAt.of_blk (Hi.blk kc4 y))
  have HLY : Hid _ := fun y : Hi (w4.alloc (.cells #[.int .u8 b0, .int .u8 b1, .int .u8 b2, .int .u8 b3, .int .u8 b4, .int .u8 b5, .int .u8 b6, .int .u8 b7, .int .u8 b8, .int .u8 b9, .int .u8 b10, .int .u8 b11, .int .u8 b12, .int .u8 b13, .int .u8 b14, .int .u8 b15] 31)) => agg_load (t := 31) Tryd.isAgg31 Tryd.sizeOf31 rfl (CellsAt.of_blk (Hi.blk hy y))
  clear ka4 kb4 kc4 hx4 hy hB9
  go_wp2_with fail
  generalize w4.alloc (.cells #[.int .u8 b0, .int .u8 b1, .int .u8 b2, .int .u8 b3, .int .u8 b4, .int .u8 b5, .int .u8 b6, .int .u8 b7, .int .u8 b8, .int .u8 b9, .int .u8 b10, .int .u8 b11, .int .u8 b12, .int .u8 b13, .int .u8 b14, .int .u8 b15] 31) = W9 at *
  by_cases hbc : [b0, b1, b2, b3, b4, b5, b6, b7, b8, b9, b10, b11, b12, b13, b14, b15] = [c0, c1, c2, c3, c4, c5, c6, c7, c8, c9, c10, c11, c12, c13, c14, c15]
  · have hT := HI.out.2 hbc
    subst hT
    clear HI ec9997 ec9998
    simp only [List.cons.injEq, and_true] at hbc
    obtain ⟨rfl, rfl, rfl, rfl, rfl, rfl, rfl, rfl, rfl, rfl, rfl, rfl, rfl, rfl, rfl, rfl⟩ := hbc
    change Hid (∀ y : Hi W9, (Instr.loadAt 23 (.pointer (some ⟨w.heap.size, 0, none⟩))).run Tryd.prog y.W = .ok (.agg #[.int .u8 a0, .int .u8 a1, .int .u8 a2, .int .u8 a3]) y.W) at HLA
    change Hid (∀ y : Hi W9, (Instr.loadAt 23 (.pointer (some ⟨w2.heap.size, 0, none⟩))).run Tryd.prog y.W = .ok (.agg #[.int .u8 a0, .int .u8 a1, .int .u8 a2, .int .u8 a3]) y.W) at HLX
    change Hid (∀ y : Hi W9, (Instr.loadAt 31 (.pointer (some ⟨w.heap.size + 1, 0, none⟩))).run Tryd.prog y.W = .ok (.agg #[.int .u8 b0, .int .u8 b1, .int .u8 b2, .int .u8 b3, .int .u8 b4, .int .u8 b5, .int .u8 b6, .int .u8 b7, .int .u8 b8, .int .u8 b9, .int .u8 b10, .int .u8 b11, .int .u8 b12, .int .u8 b13, .int .u8 b14, .int .u8 b15]) y.W) at HLB
    change Hid (∀ y : Hi W9, (Instr.loadAt 31 (.pointer (some ⟨w.heap.size + 1 + 1, 0, none⟩))).run Tryd.prog y.W = .ok (.agg #[.int .u8 b0, .int .u8 b1, .int .u8 b2, .int .u8 b3, .int .u8 b4, .int .u8 b5, .int .u8 b6, .int .u8 b7, .int .u8 b8, .int .u8 b9, .int .u8 b10, .int .u8 b11, .int .u8 b12, .int .u8 b13, .int .u8 b14, .int .u8 b15]) y.W) at HLC
    change Hid (∀ y : Hi W9, (Instr.loadAt 31 (.pointer (some ⟨w4.heap.size, 0, none⟩))).run Tryd.prog y.W = .ok (.agg #[.int .u8 b0, .int .u8 b1, .int .u8 b2, .int .u8 b3, .int .u8 b4, .int .u8 b5, .int .u8 b6, .int .u8 b7, .int .u8 b8, .int .u8 b9, .int .u8 b10, .int .u8 b11, .int .u8 b12, .int .u8 b13, .int .u8 b14, .int .u8 b15]) y.W) at HLY
    generalize (#[.int .u8 b0, .int .u8 b1, .int .u8 b2, .int .u8 b3, .int .u8 b4, .int .u8 b5, .int .u8 b6, .int .u8 b7, .int .u8 b8, .int .u8 b9, .int .u8 b10, .int .u8 b11, .int .u8 b12, .int .u8 b13, .int .u8 b14, .int .u8 b15] : Array Value) = vb at *
    generalize (#[.int .u8 a0, .int .u8 a1, .int .u8 a2, .int .u8 a3] : Array Value) = va at *
    refine wp_region_hi (by kernel_rfl) (by kernel_rfl) ?_
    repeat (first | (go_big_quiet_want; refine hi_load (.tmp 3) 23 rfl rfl HLA.out ?_; simp only [Act.put, List.setIfInBounds_toArray, List.set_cons_zero, List.set_cons_succ]; go_big_quiet_on) | (go_big_quiet_want; refine hi_load (.tmp 4) 31 rfl rfl HLB.out ?_; simp only [Act.put, List.setIfInBounds_toArray, List.set_cons_zero, List.set_cons_succ]; go_big_quiet_on) | (go_big_quiet_want; refine hi_load (.tmp 5) 31 rfl rfl HLC.out ?_; simp only [Act.put, List.setIfInBounds_toArray, List.set_cons_zero, List.set_cons_succ]; go_big_quiet_on) | (go_big_quiet_want; refine hi_load (.tmp 7) 23 rfl rfl HLX.out ?_; simp only [Act.put, List.setIfInBounds_toArray, List.set_cons_zero, List.set_cons_succ]; go_big_quiet_on) | (go_big_quiet_want; refine hi_load (.tmp 10) 31 rfl rfl HLY.out ?_; simp only [Act.put, List.setIfInBounds_toArray, List.set_cons_zero, List.set_cons_succ]; go_big_quiet_on) | go_big_quiet_step (first | (go_at_call_of 20 (Value.agg vb); exact Hi.calls (HTB.out _ (HBW.out.trans ((Hi.below _).mono HBW.out.size)))) | (go_at_call 17; exact Hi.calls (HAW.out _ (HBW.out.trans ((Hi.below _).mono HBW.out.size))))))
    refine wpQuiet_nil ?_
    intro _ hw
    obtain ⟨y, rfl⟩ := hw
    go_wp2
    go_ret
    exact ⟨rfl, HBW.out.trans (y.below.mono HBW.out.size)⟩
  · have hT : ¬ TB = TC := fun h => hbc (HI.out.1 h)
    have hT2 : (TB == TC) = false := beq_eq_false_iff_ne.2 hT
    have hT3 := bytes_ne TB TC hT
    have ec1 := ec9997.out
    have ec2 := ec9998.out
    rw [decide_eq_false hbc] at ec1 ec2
    clear HI ec9997 ec9998 hbc
    change Hid (∀ y : Hi W9, (Instr.loadAt 23 (.pointer (some ⟨w.heap.size, 0, none⟩))).run Tryd.prog y.W = .ok (.agg #[.int .u8 a0, .int .u8 a1, .int .u8 a2, .int .u8 a3]) y.W) at HLA
    change Hid (∀ y : Hi W9, (Instr.loadAt 23 (.pointer (some ⟨w2.heap.size, 0, none⟩))).run Tryd.prog y.W = .ok (.agg #[.int .u8 a0, .int .u8 a1, .int .u8 a2, .int .u8 a3]) y.W) at HLX
    change Hid (∀ y : Hi W9, (Instr.loadAt 31 (.pointer (some ⟨w.heap.size + 1, 0, none⟩))).run Tryd.prog y.W = .ok (.agg #[.int .u8 b0, .int .u8 b1, .int .u8 b2, .int .u8 b3, .int .u8 b4, .int .u8 b5, .int .u8 b6, .int .u8 b7, .int .u8 b8, .int .u8 b9, .int .u8 b10, .int .u8 b11, .int .u8 b12, .int .u8 b13, .int .u8 b14, .int .u8 b15]) y.W) at HLB
    change Hid (∀ y : Hi W9, (Instr.loadAt 31 (.pointer (some ⟨w.heap.size + 1 + 1, 0, none⟩))).run Tryd.prog y.W = .ok (.agg #[.int .u8 c0, .int .u8 c1, .int .u8 c2, .int .u8 c3, .int .u8 c4, .int .u8 c5, .int .u8 c6, .int .u8 c7, .int .u8 c8, .int .u8 c9, .int .u8 c10, .int .u8 c11, .int .u8 c12, .int .u8 c13, .int .u8 c14, .int .u8 c15]) y.W) at HLC
    change Hid (∀ y : Hi W9, (Instr.loadAt 31 (.pointer (some ⟨w4.heap.size, 0, none⟩))).run Tryd.prog y.W = .ok (.agg #[.int .u8 b0, .int .u8 b1, .int .u8 b2, .int .u8 b3, .int .u8 b4, .int .u8 b5, .int .u8 b6, .int .u8 b7, .int .u8 b8, .int .u8 b9, .int .u8 b10, .int .u8 b11, .int .u8 b12, .int .u8 b13, .int .u8 b14, .int .u8 b15]) y.W) at HLY
    generalize (#[.int .u8 b0, .int .u8 b1, .int .u8 b2, .int .u8 b3, .int .u8 b4, .int .u8 b5, .int .u8 b6, .int .u8 b7, .int .u8 b8, .int .u8 b9, .int .u8 b10, .int .u8 b11, .int .u8 b12, .int .u8 b13, .int .u8 b14, .int .u8 b15] : Array Value) = vb at *
    generalize (#[.int .u8 c0, .int .u8 c1, .int .u8 c2, .int .u8 c3, .int .u8 c4, .int .u8 c5, .int .u8 c6, .int .u8 c7, .int .u8 c8, .int .u8 c9, .int .u8 c10, .int .u8 c11, .int .u8 c12, .int .u8 c13, .int .u8 c14, .int .u8 c15] : Array Value) = vc at *
    generalize (#[.int .u8 a0, .int .u8 a1, .int .u8 a2, .int .u8 a3] : Array Value) = va at *
    refine wp_region_hi (by kernel_rfl) (by kernel_rfl) ?_
    repeat (first | (go_big_quiet_want; refine hi_load (.tmp 3) 23 rfl rfl HLA.out ?_; simp only [Act.put, List.setIfInBounds_toArray, List.set_cons_zero, List.set_cons_succ]; go_big_quiet_on) | (go_big_quiet_want; refine hi_load (.tmp 4) 31 rfl rfl HLB.out ?_; simp only [Act.put, List.setIfInBounds_toArray, List.set_cons_zero, List.set_cons_succ]; go_big_quiet_on) | (go_big_quiet_want; refine hi_load (.tmp 5) 31 rfl rfl HLC.out ?_; simp only [Act.put, List.setIfInBounds_toArray, List.set_cons_zero, List.set_cons_succ]; go_big_quiet_on) | (go_big_quiet_want; refine hi_load (.tmp 7) 23 rfl rfl HLX.out ?_; simp only [Act.put, List.setIfInBounds_toArray, List.set_cons_zero, List.set_cons_succ]; go_big_quiet_on) | (go_big_quiet_want; refine hi_load (.tmp 10) 31 rfl rfl HLY.out ?_; simp only [Act.put, List.setIfInBounds_toArray, List.set_cons_zero, List.set_cons_succ]; go_big_quiet_on) | go_big_quiet_step (first | (go_at_call_of 20 (Value.agg vb); exact Hi.calls (HTB.out _ (HBW.out.trans ((Hi.below _).mono HBW.out.size)))) | (go_at_call_of 20 (Value.agg vc); exact Hi.calls (HTC.out _ (HBW.out.trans ((Hi.below _).mono HBW.out.size)))) | (go_at_call 17; exact Hi.calls (HAW.out _ (HBW.out.trans ((Hi.below _).mono HBW.out.size))))))
    refine wpQuiet_nil ?_
    intro _ hw
    obtain ⟨y, rfl⟩ := hw
    go_wp2
    go_ret
    exact ⟨rfl, HBW.out.trans (y.below.mono HBW.out.size)⟩

set_option maxRecDepth 100000 in
theorem open_addr6R {H : Type} {enc : TypeId × Value → H} {W : World} {v : Value} {d : DataW H} {p : List MemPlace} (h : DataW.Trod enc Tryd.prog W 0 (fun _ => true) true 31 v d p) :
    ∃ a0 a1 a2 a3 a4 a5 a6 a7 a8 a9 a10 a11 a12 a13 a14 a15 : Int, v = .agg #[.int .u8 a0, .int .u8 a1, .int .u8 a2, .int .u8 a3, .int .u8 a4, .int .u8 a5, .int .u8 a6, .int .u8 a7, .int .u8 a8, .int .u8 a9, .int .u8 a10, .int .u8 a11, .int .u8 a12, .int .u8 a13, .int .u8 a14, .int .u8 a15] ∧ (0 ≤ a0 ∧ a0 < 256) ∧ (0 ≤ a1 ∧ a1 < 256) ∧ (0 ≤ a2 ∧ a2 < 256) ∧ (0 ≤ a3 ∧ a3 < 256) ∧ (0 ≤ a4 ∧ a4 < 256) ∧ (0 ≤ a5 ∧ a5 < 256) ∧ (0 ≤ a6 ∧ a6 < 256) ∧ (0 ≤ a7 ∧ a7 < 256) ∧ (0 ≤ a8 ∧ a8 < 256) ∧ (0 ≤ a9 ∧ a9 < 256) ∧ (0 ≤ a10 ∧ a10 < 256) ∧ (0 ≤ a11 ∧ a11 < 256) ∧ (0 ≤ a12 ∧ a12 < 256) ∧ (0 ≤ a13 ∧ a13 < 256) ∧ (0 ≤ a14 ∧ a14 < 256) ∧ (0 ≤ a15 ∧ a15 < 256) := by
  obtain ⟨fuel, hf⟩ := h
  obtain ⟨zs, hl, hcs, hfit⟩ := cells_arrR Tryd.underlying31 (by kernel_rfl) (by kernel_rfl) hf
  have hv := agg_ofR hcs (by simp; omega)
  match zs, hl with
  | [a0, a1, a2, a3, a4, a5, a6, a7, a8, a9, a10, a11, a12, a13, a14, a15], _ => exact ⟨a0, a1, a2, a3, a4, a5, a6, a7, a8, a9, a10, a11, a12, a13, a14, a15, hv, hfit _ (by simp), hfit _ (by simp), hfit _ (by simp), hfit _ (by simp), hfit _ (by simp), hfit _ (by simp), hfit _ (by simp), hfit _ (by simp), hfit _ (by simp), hfit _ (by simp), hfit _ (by simp), hfit _ (by simp), hfit _ (by simp), hfit _ (by simp), hfit _ (by simp), hfit _ (by simp)⟩

set_option maxRecDepth 100000 in
theorem addrBack_open {H : Type} {enc : TypeId × Value → H} {W : World} {base : Nat} (tb : Tabs W ∧ Tz W) (v0 v1 v2 : Value) {d0 d1 d2 : DataW H} {p0 p1 p2 : List MemPlace}
    (o0 : Value.okWide Tryd.prog W .any base 23 v0) (h0 : DataW.Trod enc Tryd.prog W 0 (fun _ => true) true 23 v0 d0 p0) (z0 : ∀ k ∈ d0.weights Tryd.prog 23, k ≤ reachBytes)
    (o1 : Value.okWide Tryd.prog W .any base 31 v1) (h1 : DataW.Trod enc Tryd.prog W 0 (fun _ => true) true 31 v1 d1 p1) (z1 : ∀ k ∈ d1.weights Tryd.prog 31, k ≤ reachBytes)
    (o2 : Value.okWide Tryd.prog W .any base 31 v2) (h2 : DataW.Trod enc Tryd.prog W 0 (fun _ => true) true 31 v2 d2 p2) (z2 : ∀ k ∈ d2.weights Tryd.prog 31, k ≤ reachBytes) :
    Calls Tryd.prog 9 #[v0, v1, v2] W fun e w' => e = .returned (.bool true) ∧ Below W.heap.size W w' := by
  obtain ⟨a0, a1, a2, a3, rfl, e0, e1, e2, e3⟩ := open_four h0
  obtain ⟨b0, b1, b2, b3, b4, b5, b6, b7, b8, b9, b10, b11, b12, b13, b14, b15, rfl, f0, f1, f2, f3, f4, f5, f6, f7, f8, f9, f10, f11, f12, f13, f14, f15⟩ := open_addr6R h1
  obtain ⟨c0, c1, c2, c3, c4, c5, c6, c7, c8, c9, c10, c11, c12, c13, c14, c15, rfl, g0, g1, g2, g3, g4, g5, g6, g7, g8, g9, g10, g11, g12, g13, g14, g15⟩ := open_addr6R h2
  exact addrBack_walk a0 a1 a2 a3 b0 b1 b2 b3 b4 b5 b6 b7 b8 b9 b10 b11 b12 b13 b14 b15 c0 c1 c2 c3 c4 c5 c6 c7 c8 c9 c10 c11 c12 c13 c14 c15 e0 e1 e2 e3 f0 f1 f2 f3 f4 f5 f6 f7 f8 f9 f10 f11 f12 f13 f14 f15 g0 g1 g2 g3 g4 g5 g6 g7 g8 g9 g10 g11 g12 g13 g14 g15 W tb

end Go.Proofs.YtopbbljnhnhpaaaDoor
