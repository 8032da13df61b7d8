/-
  The statement AddrFours for every argument.
  An address as groups.
  The gap, and the text of every IPv6 address.
  The own texts are parsed as what they are texts of.
  The document's own text in plain steps, and that it is the program's.
  The document's own text of every IPv6 address.
-/
import Derived.Test.YtlpbffcijhgelaaDoorFold04
import Derived.Test.YtlpbffcijhgelaaDoorFold03
import Derived.Test.YtlpbffcijhgelaaDoorAgg
import Derived.Test.YtlpbffcijhgelaaDoorAddrEq
import Derived.OpenShut
import Derived.ShutString
import Derived.ChangeArms
import Derived.ChangeSame
import Derived.ProofKit
import Derived.Test.YtlpbffcijhgelaaDoorFold02
import Derived.Test.YtlpbffcijhgelaaDoorFold00
import Derived.Laws.BitsAllLaws
import Derived.Laws.OwnMore
namespace Go.Proofs.YtlpbffcijhgelaaDoor
open Go Go.RowKit Go.ChangeShapes Go.WideShapes Go.ChangeAt
set_option linter.unusedVariables false
set_option linter.unusedSimpArgs false

theorem dot_read_ok : ∀ (l : List UInt8) (pos : Nat) (d d' : Dot), d.Ok → dotReader.read l pos d = .good d' → d'.Ok
  | [], pos, d, d', hd, h => by
    unfold Reader.read at h
    split at h
    · cases h; exact hd
    · cases h
  | c :: l, pos, d, d', hd, h => by
    unfold Reader.read at h
    have e : dotReader.take d ((c.toNat : Nat) : Int) = d.take ((c.toNat : Nat) : Int) := rfl
    rw [e] at h
    cases ht : d.take ((c.toNat : Nat) : Int) with
    | none => rw [ht] at h; cases h
    | some d2 =>
      rw [ht] at h
      exact dot_read_ok l (pos + 1) d2 d' (Dot.take_ok ht hd) h
theorem parse4_four (l : List UInt8) : ∃ x0 x1 x2 x3 : Int, (parse4 l).1 = [x0, x1, x2, x3] ∧ FitB [x0, x1, x2, x3] := by
  unfold parse4
  cases hr : dotReader.read l 0 Dot.new with
  | bad n => exact ⟨_, _, _, _, rfl, fun z hz => by simp at hz; omega⟩
  | good d =>
    have hd := dot_read_ok l 0 Dot.new d Dot.ok_new hr
    have b0 : 0 ≤ d.e0 ∧ d.e0 < 256 := hd.e0
    have b1 : 0 ≤ d.e1 ∧ d.e1 < 256 := hd.e1
    have b2 : 0 ≤ d.e2 ∧ d.e2 < 256 := hd.e2
    have b3 : 0 ≤ d.num.value ∧ d.num.value ≤ 255 := hd.num
    refine ⟨_, _, _, _, rfl, fun z hz => ?_⟩
    simp at hz
    rcases hz with rfl | rfl | rfl | rfl <;> omega
theorem parse4_all (s : ByteArray) (hs : s.size ≤ 140737488355328) : ∃ (x0 x1 x2 x3 n e : Int), FitB [x0, x1, x2, x3] ∧
    (∀ W, Calls Tryd.prog 13 #[.string s] W fun e' w' => e' = .returned (.tuple #[.agg #[.int .u8 x0, .int .u8 x1, .int .u8 x2, .int .u8 x3], .int .i64 n, .int .i64 e]) ∧ Below W.heap.size W w') ∧
    (∀ W, Calls Tryd.prog 14 #[.string s] W fun e' w' => e' = .returned (.tuple #[.agg #[.int .u8 x0, .int .u8 x1, .int .u8 x2, .int .u8 x3], .int .i64 n, .int .i64 e]) ∧ Below W.heap.size W w') := by
  obtain ⟨x0, x1, x2, x3, hx, hfx⟩ := parse4_four s.data.toList
  refine ⟨x0, x1, x2, x3, ((parse4 s.data.toList).2.1 : Int), (parse4 s.data.toList).2.2, hfx, fun W => ?_, fun W => ?_⟩
  · have h := parse4_calls s hs W
    rw [hx] at h
    exact h
  · have h := Parse4_wide s W hs
    unfold Par4Post at h
    have e : rparse4 (txt s) = ((parse4 s.data.toList).1, ((parse4 s.data.toList).2.1 : Int), (parse4 s.data.toList).2.2) := parse_both s.data.toList
    rw [e, hx] at h
    exact h

set_option maxHeartbeats 4000000 in
set_option maxRecDepth 100000 in
theorem addrFours_walk (s : ByteArray) (hs : s.size ≤ 140737488355328) (a0 a1 a2 a3 : Int) (h0 : Byte a0) (h1 : Byte a1) (h2 : Byte a2) (h3 : Byte a3) (w : World) (tb : Tabs w ∧ Tz w) :
    Calls Tryd.prog 3 #[.string s, .agg #[.int .u8 a0, .int .u8 a1, .int .u8 a2, .int .u8 a3]] w fun e w' => e = .returned (.bool true) ∧ Below w.heap.size w w' := by
  obtain ⟨x0, x1, x2, x3, n, er, hfx, g1, g2⟩ := parse4_all s hs
  have eqx9999 : ∀ W, (Op.equalIn 9999 23 (.agg #[.int .u8 x0, .int .u8 x1, .int .u8 x2, .int .u8 x3]) (.agg #[.int .u8 x0, .int .u8 x1, .int .u8 x2, .int .u8 x3])).run Tryd.prog W = .ok true W := fun W => by
    have := eq_arr4 9997 [x0, x1, x2, x3] [x0, x1, x2, x3] hfx hfx rfl rfl W
    rwa [decide_eq_true rfl] at this
  have eqx10000 : ∀ W, (Op.equalIn 10000 23 (.agg #[.int .u8 x0, .int .u8 x1, .int .u8 x2, .int .u8 x3]) (.agg #[.int .u8 x0, .int .u8 x1, .int .u8 x2, .int .u8 x3])).run Tryd.prog W = .ok true W := fun W => by
    have := eq_arr4 9998 [x0, x1, x2, x3] [x0, x1, x2, x3] hfx hfx rfl rfl W
    rwa [decide_eq_true rfl] at this
  have H1 : Hid _ := g1
  have H2 : Hid _ := g2
  have HT1 : Hid (∀ W, Below w.heap.size w W → Calls Tryd.prog 15 #[.agg #[.int .u8 a0, .int .u8 a1, .int .u8 a2, .int .u8 a3]] W fun e w' => e = .returned (strV (text4 [a0, a1, a2, a3])) ∧ Below W.heap.size W w') := fun W hW => text4_calls a0 a1 a2 a3 h0 h1 h2 h3 W (Tabs.on tb.1 hW)
  have HT2 : Hid (∀ W, Below w.heap.size w W → Calls Tryd.prog 16 #[.agg #[.int .u8 a0, .int .u8 a1, .int .u8 a2, .int .u8 a3]] W fun e w' => e = .returned (strV (text4 [a0, a1, a2, a3])) ∧ Below W.heap.size W w') := fun W hW => RText4_calls a0 a1 a2 a3 h0 h1 h2 h3 W (Tabs.on tb.1 hW)
  have HAW : Hid (∀ W, Below w.heap.size w W → Calls Tryd.prog 17 #[] W fun e w' => e = .returned (.bool true) ∧ Below W.heap.size W w') := fun W hW => Awake.on tb W hW
  have hB := (Below.refl w.heap.size w).alloc (Nat.le_refl _) (.cells #[.int .u8 a0, .int .u8 a1, .int .u8 a2, .int .u8 a3] 23)
  have hk := blk_new w (.cells #[.int .u8 a0, .int .u8 a1, .int .u8 a2, .int .u8 a3] 23)
  clear g1 g2 tb
  generalize text4 [a0, a1, a2, a3] = T at *
  go_enter Tryd.func3, Tryd.ntmps3
  go_wp2_with fail
  refine (H1.out _).mono ?_
  rintro e w2 ⟨rfl, hB2⟩
  have hk2 := blk_on hk hB2
  have hBw2 := hB.trans (hB2.mono hB.size)
  have hb5 := blk_new w2 (.cells #[.int .u8 x0, .int .u8 x1, .int .u8 x2, .int .u8 x3] 23)
  have hk3 := blk_alloc hk2 (.cells #[.int .u8 x0, .int .u8 x1, .int .u8 x2, .int .u8 x3] 23)
  have hBw3 := hBw2.alloc hBw2.size (.cells #[.int .u8 x0, .int .u8 x1, .int .u8 x2, .int .u8 x3] 23)
  clear hk hk2 hB2 hB H1
  go_wp2_with fail
  refine (H2.out _).mono ?_
  rintro e w4 ⟨rfl, hB4⟩
  have hk4 := blk_alloc (blk_on hk3 hB4) (.cells #[.int .u8 x0, .int .u8 x1, .int .u8 x2, .int .u8 x3] 23)
  have hb54 := blk_alloc (blk_on hb5 hB4) (.cells #[.int .u8 x0, .int .u8 x1, .int .u8 x2, .int .u8 x3] 23)
  have hb8 := blk_new w4 (.cells #[.int .u8 x0, .int .u8 x1, .int .u8 x2, .int .u8 x3] 23)
  have hBw4 := hBw3.trans (hB4.mono hBw3.size)
  have hBw5 := hBw4.alloc hBw4.size (.cells #[.int .u8 x0, .int .u8 x1, .int .u8 x2, .int .u8 x3] 23)
  obtain ⟨p0, p1, p2, p3⟩ := Hi.cell4 hk4
  obtain ⟨q0, q1, q2, q3⟩ := Hi.cell4 hb54
  obtain ⟨r0, r1, r2, r3⟩ := Hi.cell4 hb8
  have HBW : Hid _ := hBw5
  have e1 : (n == n) = true := beq_self_eq_true n
  have e2 : (er == er) = true := beq_self_eq_true er
  clear hk3 hb5 hB4 hk4 hb54 hb8 hBw2 hBw3 hBw4 hBw5 H2
  go_wp2_with fail
  refine wp_region_hi (by kernel_rfl) (by kernel_rfl) ?_
  repeat (go_big_quiet_step (first | (go_at_call 15; exact Hi.calls (HT1.out _ (HBW.out.trans ((Hi.below _).mono HBW.out.size)))) | (go_at_call 16; exact Hi.calls (HT2.out _ (HBW.out.trans ((Hi.below _).mono HBW.out.size)))) | (go_at_call 17; exact Hi.calls (HAW.out _ (HBW.out.trans ((Hi.below _).mono HBW.out.size))))))
  refine wpQuiet_nil ?_
  intro _ hw
  obtain ⟨y, rfl⟩ := hw
  go_wp2
  go_ret
  exact ⟨rfl, HBW.out.trans (y.below.mono HBW.out.size)⟩

theorem cells_arrR {H : Type} {enc : TypeId × Value → H} {w : World} {base : Nat} {spare : Nat → Bool} {held : Bool} {fuel : Nat} {t : TypeId} {cs : List Value} {x : DataW H × List MemPlace} {n : Nat}
    (ht : Tryd.prog.underlying t = some (.array n 5)) (ct : Tryd.prog.cellsOf t = n) (ce : Tryd.prog.cellsOf 5 = 1) (h : DataW.trod enc Tryd.prog w base spare held fuel t cs = some x) :
    ∃ zs : List Int, zs.length = n ∧ cs = zs.map (fun z => Value.int .u8 z) ∧ ∀ z ∈ zs, 0 ≤ z ∧ z < 256 := by
  obtain ⟨xs, m, _, _, hl, hx, hi⟩ := DataW.trod_array ht h
  rw [ct] at hl
  have each : ∀ i, i < n → ∃ z : Int, cs[i]? = some (.int .u8 z) ∧ 0 ≤ z ∧ z < 256 := by
    intro i hin
    have h1 := hi i hin
    rw [ce, Nat.mul_one, List.getElem?_eq_getElem (by omega)] at h1
    obtain ⟨z, e, _, wf⟩ := DataW.trod_int Tryd.underlying5 h1
    have hb := bounds_u8 wf
    refine ⟨z, ?_, by omega, by omega⟩
    have e2 := congrArg (fun l : List Value => l[0]?) e
    simpa [List.getElem?_take, List.getElem?_drop] using e2
  refine ⟨cs.map intOf, by simpa using hl, ?_, ?_⟩
  · refine List.ext_getElem? fun i => ?_
    by_cases c : i < n
    · obtain ⟨z, hz, _⟩ := each i c
      simp [hz, intOf]
    · rw [List.getElem?_eq_none (by omega), List.getElem?_eq_none (by simp; omega)]
  · intro z hz
    obtain ⟨v, hv, rfl⟩ := List.mem_map.1 hz
    obtain ⟨i, hi', e⟩ := List.getElem_of_mem hv
    obtain ⟨z, hz2, hb⟩ := each i (by omega)
    rw [List.getElem?_eq_getElem hi', e] at hz2
    cases hz2
    exact hb
theorem agg_ofR {v : Value} {l : List Value} (h : v.cells.toList = l) (hl : 2 ≤ l.length) : v = .agg l.toArray := by
  cases v
  case agg cs => simp only [Value.cells] at h; rw [← h]
  all_goals (simp [Value.cells] at h; subst h; simp at hl)
set_option maxRecDepth 100000 in
theorem open_four {H : Type} {enc : TypeId × Value → H} {W : World} {v : Value} {d : DataW H} {p : List MemPlace} (h : DataW.Trod enc Tryd.prog W 0 (fun _ => true) true 23 v d p) :
    ∃ a0 a1 a2 a3, v = .agg #[.int .u8 a0, .int .u8 a1, .int .u8 a2, .int .u8 a3] ∧ Byte a0 ∧ Byte a1 ∧ Byte a2 ∧ Byte a3 := by
  obtain ⟨fuel, hf⟩ := h
  obtain ⟨zs, hl, hcs, hfit⟩ := cells_arrR Tryd.underlying23 (by kernel_rfl) (by kernel_rfl) hf
  have hv := agg_ofR hcs (by simp; omega)
  match zs, hl with
  | [x0, x1, x2, x3], _ => exact ⟨x0, x1, x2, x3, hv, hfit _ (by simp), hfit _ (by simp), hfit _ (by simp), hfit _ (by simp)⟩
set_option maxRecDepth 100000 in
theorem open_text {H : Type} {enc : TypeId × Value → H} {W : World} {base : Nat} {v : Value} {d : DataW H} {p : List MemPlace} (o : Value.okWide Tryd.prog W .any base 9 v) (h : DataW.Trod enc Tryd.prog W 0 (fun _ => true) true 9 v d p) (z : ∀ k ∈ d.weights Tryd.prog 9, k ≤ reachBytes) :
    ∃ s : ByteArray, v = .string s ∧ s.size ≤ 140737488351232 := by
  obtain ⟨s, rfl, rfl, _, _⟩ := Go.ChangeMaps.open_string Tryd.underlying9 o h
  refine ⟨s, rfl, ?_⟩
  have h1 := z s.data.toList.length (by simp [DataW.weights])
  have h2 : reachBytes = 140737488351232 := rfl
  rw [h2] at h1
  exact h1

set_option maxRecDepth 100000 in
theorem addrFours_open {H : Type} {enc : TypeId × Value → H} {W : World} {base : Nat} (tb : Tabs W ∧ Tz W) (v0 v1 : Value) {d0 d1 : DataW H} {p0 p1 : List MemPlace}
    (o0 : Value.okWide Tryd.prog W .any base 9 v0) (h0 : DataW.Trod enc Tryd.prog W 0 (fun _ => true) true 9 v0 d0 p0) (z0 : ∀ k ∈ d0.weights Tryd.prog 9, k ≤ reachBytes)
    (o1 : Value.okWide Tryd.prog W .any base 23 v1) (h1 : DataW.Trod enc Tryd.prog W 0 (fun _ => true) true 23 v1 d1 p1) (z1 : ∀ k ∈ d1.weights Tryd.prog 23, k ≤ reachBytes) :
    Calls Tryd.prog 3 #[v0, v1] W fun e w' => e = .returned (.bool true) ∧ Below W.heap.size W w' := by
  obtain ⟨s, rfl, hs⟩ := open_text o0 h0 z0
  obtain ⟨a0, a1, a2, a3, rfl, f0, f1, f2, f3⟩ := open_four h1
  exact addrFours_walk s (by omega) a0 a1 a2 a3 f0 f1 f2 f3 W tb

end Go.Proofs.YtlpbffcijhgelaaDoor

namespace Go.Proofs.YtlpbffcijhgelaaDoor
open Go Go.RowKit
set_option linter.unusedVariables false
set_option linter.unusedSimpArgs false

theorem or8 (a b : Int) (ha : 0 ≤ a ∧ a < 256) (hb : 0 ≤ b ∧ b < 256) : bits .or .u16 (a * 256) b = a * 256 + b := by
  obtain ⟨x, rfl⟩ := Int.eq_ofNat_of_zero_le ha.1
  obtain ⟨y, rfl⟩ := Int.eq_ofNat_of_zero_le hb.1
  rw [u16_or _ _ (by omega) (by omega) (by omega) (by omega)]
  have e1 : ((x : Int) * 256).toNat = 2 ^ 8 * x := by omega
  have e2 : (y : Int).toNat = y := by omega
  rw [e1, e2, ← Nat.two_pow_add_eq_or_of_lt (by omega) x]
  omega

set_option maxHeartbeats 8000000 in
set_option maxRecDepth 100000 in
theorem groups_calls (a0 a1 a2 a3 a4 a5 a6 a7 a8 a9 a10 a11 a12 a13 a14 a15 : Int) (h0 : 0 ≤ a0 ∧ a0 < 256) (h1 : 0 ≤ a1 ∧ a1 < 256) (h2 : 0 ≤ a2 ∧ a2 < 256) (h3 : 0 ≤ a3 ∧ a3 < 256) (h4 : 0 ≤ a4 ∧ a4 < 256) (h5 : 0 ≤ a5 ∧ a5 < 256) (h6 : 0 ≤ a6 ∧ a6 < 256) (h7 : 0 ≤ a7 ∧ a7 < 256) (h8 : 0 ≤ a8 ∧ a8 < 256) (h9 : 0 ≤ a9 ∧ a9 < 256) (h10 : 0 ≤ a10 ∧ a10 < 256) (h11 : 0 ≤ a11 ∧ a11 < 256) (h12 : 0 ≤ a12 ∧ a12 < 256) (h13 : 0 ≤ a13 ∧ a13 < 256) (h14 : 0 ≤ a14 ∧ a14 < 256) (h15 : 0 ≤ a15 ∧ a15 < 256) (w : World) : Calls Tryd.prog 59 #[.agg #[.int .u8 a0, .int .u8 a1, .int .u8 a2, .int .u8 a3, .int .u8 a4, .int .u8 a5, .int .u8 a6, .int .u8 a7, .int .u8 a8, .int .u8 a9, .int .u8 a10, .int .u8 a11, .int .u8 a12, .int .u8 a13, .int .u8 a14, .int .u8 a15]] w fun e w' => e = .returned (.agg #[.int .u16 (a0 * 256 + a1), .int .u16 (a2 * 256 + a3), .int .u16 (a4 * 256 + a5), .int .u16 (a6 * 256 + a7), .int .u16 (a8 * 256 + a9), .int .u16 (a10 * 256 + a11), .int .u16 (a12 * 256 + a13), .int .u16 (a14 * 256 + a15)]) ∧ Below w.heap.size w w' := by
  have o0 := or8 a0 a1 h0 h1
  have o1 := or8 a2 a3 h2 h3
  have o2 := or8 a4 a5 h4 h5
  have o3 := or8 a6 a7 h6 h7
  have o4 := or8 a8 a9 h8 h9
  have o5 := or8 a10 a11 h10 h11
  have o6 := or8 a12 a13 h12 h13
  have o7 := or8 a14 a15 h14 h15
  go_enter Tryd.func59, Tryd.ntmps59
  go_wp2
  refine wp_loop_rounds 9 ?_
  iterate 8 (rw [rounds_succ]; go_wp2; go_region; go_wp2)
  rw [rounds_succ]
  go_wp2
  go_returns
  refine ⟨by first | rfl | kernel_rfl, ?_⟩
  go_grown

end Go.Proofs.YtlpbffcijhgelaaDoor

namespace Go.Proofs.YtlpbffcijhgelaaDoor
open Go Go.RowKit
set_option linter.unusedVariables false
set_option linter.unusedSimpArgs false

/-- Where the longest row of zeros begins and ends, and where the last one began, k groups on. -/
def gapK (z : List Bool) : Nat → Nat × Nat × Nat
  | 0 => (0, 0, 0)
  | k + 1 => if z[k]?.getD false = false then ((gapK z k).1, (gapK z k).2.1, k + 1)
    else if 1 < k + 1 - (gapK z k).2.2 ∧ (gapK z k).2.1 - (gapK z k).1 < k + 1 - (gapK z k).2.2 then ((gapK z k).2.2, k + 1, (gapK z k).2.2) else gapK z k
theorem gapK_ok (z : List Bool) : ∀ k, (gapK z k).1 ≤ (gapK z k).2.1 ∧ (gapK z k).2.1 ≤ k ∧ (gapK z k).2.2 ≤ k
  | 0 => by simp [gapK]
  | k + 1 => by
    have ih := gapK_ok z k
    rw [gapK]
    split
    · simp; omega
    · split
      · simp; omega
      · omega
def zb (G : List Int) : List Bool := G.map (fun x => x == 0)

set_option maxHeartbeats 2000000 in
theorem gap_calls (G : List Int) (hG : ∀ x ∈ G, 0 ≤ x ∧ x < 65536) (hl : G.length = 8) (b c : Nat) (w : World) (hc : ∀ (j : Nat) x, G[j]? = some x → w.cell? ⟨b, j, none⟩ = some (.int .u16 x)) :
    Calls Tryd.prog 60 #[.slice (some ⟨b, 0, none⟩) 8 c] w fun e w' => e = .returned (.tuple #[.int .i64 ((gapK (zb G) 8).1 : Nat), .int .i64 ((gapK (zb G) 8).2.1 : Nat)]) ∧ w' = w := by
  have HC : Hid _ := hc
  clear hc
  go_enter Tryd.func60, Tryd.ntmps60
  go_wp2
  go_loopw [2, 3, 4, 10] (fun f t s i wr => ∃ k : Nat, k ≤ 8 ∧ i = .int .i64 k ∧ f = .int .i64 ((gapK (zb G) k).1 : Nat) ∧ t = .int .i64 ((gapK (zb G) k).2.1 : Nat) ∧ s = .int .i64 ((gapK (zb G) k).2.2 : Nat) ∧ wr = w) (fun _ _ _ i _ => 8 - (intOf i).toNat)
  case atStart => exact ⟨0, by omega, rfl, rfl, rfl, rfl, rfl⟩
  case round =>
    obtain ⟨k, hk, rfl, rfl, rfl, rfl, rfl⟩ := hrel
    obtain ⟨i1, i2, i3⟩ := gapK_ok (zb G) k
    by_cases hlt : k < 8
    · have hx : G[k]? = some (G[k]'(by omega)) := by simp
      have hck := HC.out k _ hx
      have hzk : (zb G)[k]?.getD false = (G[k]'(by omega) == 0) := by simp [zb, hx]
      have hr := hG _ (List.mem_of_getElem? hx)
      have hs : gapK (zb G) (k + 1) = if (zb G)[k]?.getD false = false then ((gapK (zb G) k).1, (gapK (zb G) k).2.1, k + 1) else if 1 < k + 1 - (gapK (zb G) k).2.2 ∧ (gapK (zb G) k).2.1 - (gapK (zb G) k).1 < k + 1 - (gapK (zb G) k).2.2 then ((gapK (zb G) k).2.2, k + 1, (gapK (zb G) k).2.2) else gapK (zb G) k := rfl
      rw [hzk] at hs
      generalize G[k]'(by omega) = x at *
      have hlt2 : (k : Int) < 8 := by omega
      by_cases hx0 : x = 0
      · have h0 : (x == 0) = true := beq_iff_eq.2 hx0
        rw [h0, if_neg (by decide)] at hs
        have hn : (x != 0) = false := by simpa using hx0
        by_cases hcond : 1 < k + 1 - (gapK (zb G) k).2.2 ∧ (gapK (zb G) k).2.1 - (gapK (zb G) k).1 < k + 1 - (gapK (zb G) k).2.2
        · rw [if_pos hcond] at hs
          have HS : Hid _ := hs
          clear hs hzk hx h0 hx0 HC
          generalize hgk : gapK (zb G) k = g at *
          clear hgk
          obtain ⟨f, t, s⟩ := g
          simp only at i1 i2 i3 hcond HS ⊢
          obtain ⟨q1, q2⟩ := hcond
          have q3 : (1 : Int) < (k : Int) + 1 - (s : Int) := by omega
          have q4 : (t : Int) - (f : Int) < (k : Int) + 1 - (s : Int) := by omega
          go_wp2
          all_goals first
            | (exfalso; omega)
            | exact ⟨⟨k + 1, by omega, by simp, by rw [HS.out], by rw [HS.out]; simp, by rw [HS.out], trivial⟩, by simp [intOf]; omega⟩
        · rw [if_neg hcond] at hs
          have HS : Hid _ := hs
          clear hs hzk hx h0 hx0 HC
          generalize hgk : gapK (zb G) k = g at *
          clear hgk
          obtain ⟨f, t, s⟩ := g
          simp only at i1 i2 i3 hcond HS ⊢
          go_wp2
          all_goals first
            | (exfalso; omega)
            | exact ⟨⟨k + 1, by omega, by simp, by rw [HS.out], by rw [HS.out], by rw [HS.out], trivial⟩, by simp [intOf]; omega⟩
      · have h0 : (x == 0) = false := beq_eq_false_iff_ne.2 hx0
        rw [h0, if_pos rfl] at hs
        have hn : (x != 0) = true := by simpa using hx0
        have HS : Hid _ := hs
        clear hs hzk hx h0 hx0 HC
        generalize hgk : gapK (zb G) k = g at *
        clear hgk
        obtain ⟨f, t, s⟩ := g
        simp only at i1 i2 i3 HS ⊢
        go_wp2
        all_goals first
          | (exfalso; omega)
          | exact ⟨⟨k + 1, by omega, by simp, by rw [HS.out], by rw [HS.out], by rw [HS.out]; simp, trivial⟩, by simp [intOf]; omega⟩
    · obtain rfl : k = 8 := by omega
      go_wp2
      go_ret2
      exact ⟨rfl, rfl⟩

/-- A text's groups in hex digits. -/
def jn (l : List Int) : List UInt8 := Lib.join (l.map hexText) [58]
/-- The own text of an address, by its groups. -/
def own6 (G : List Int) : List UInt8 := if (gapK (zb G) 8).2.1 = 0 then jn G else jn (G.take (gapK (zb G) 8).1) ++ [58, 58] ++ jn (G.drop (gapK (zb G) 8).2.1)
theorem jn_len (l : List Int) (h : l.length ≤ 8) : (jn l).length ≤ 100 := by
  unfold jn
  have h5 : ∀ z : Int, (hexText z).length ≤ 4 := by
    intro z
    unfold hexText
    split
    · simp
    · split
      · simp
      · split <;> simp
  have : ∀ l : List (List UInt8), (∀ x ∈ l, x.length ≤ 4) → (Lib.join l [58]).length ≤ 5 * l.length := by
    intro l hx
    cases l with
    | nil => simp [Lib.join_nil]
    | cons x r =>
      rw [Lib.join_cons]
      have ht : ∀ r : List (List UInt8), (∀ y ∈ r, y.length ≤ 4) → (Lib.joinTail [58] r).length ≤ 5 * r.length := by
        intro r
        induction r with
        | nil => intro _; simp [Lib.joinTail]
        | cons y r ih =>
          intro hy
          have h1 := hy y (by simp)
          have h2 := ih (fun z hz => hy z (by simp [hz]))
          simp only [Lib.joinTail, List.map_cons, List.flatten_cons, List.length_append, List.length_cons, List.length_nil] at h2 ⊢
          omega
      have h1 := hx x (by simp)
      have h2 := ht r (fun z hz => hx z (by simp [hz]))
      simp
      omega
  have h2 := this (l.map hexText) (by intro x hx; simp at hx; obtain ⟨z, _, rfl⟩ := hx; exact h5 z)
  simp at h2
  omega

set_option maxHeartbeats 4000000 in
set_option maxRecDepth 100000 in
theorem text6_all (a0 a1 a2 a3 a4 a5 a6 a7 a8 a9 a10 a11 a12 a13 a14 a15 : Int) (h0 : 0 ≤ a0 ∧ a0 < 256) (h1 : 0 ≤ a1 ∧ a1 < 256) (h2 : 0 ≤ a2 ∧ a2 < 256) (h3 : 0 ≤ a3 ∧ a3 < 256) (h4 : 0 ≤ a4 ∧ a4 < 256) (h5 : 0 ≤ a5 ∧ a5 < 256) (h6 : 0 ≤ a6 ∧ a6 < 256) (h7 : 0 ≤ a7 ∧ a7 < 256) (h8 : 0 ≤ a8 ∧ a8 < 256) (h9 : 0 ≤ a9 ∧ a9 < 256) (h10 : 0 ≤ a10 ∧ a10 < 256) (h11 : 0 ≤ a11 ∧ a11 < 256) (h12 : 0 ≤ a12 ∧ a12 < 256) (h13 : 0 ≤ a13 ∧ a13 < 256) (h14 : 0 ≤ a14 ∧ a14 < 256) (h15 : 0 ≤ a15 ∧ a15 < 256) (w : World) (ht : Tz w) : Calls Tryd.prog 20 #[.agg #[.int .u8 a0, .int .u8 a1, .int .u8 a2, .int .u8 a3, .int .u8 a4, .int .u8 a5, .int .u8 a6, .int .u8 a7, .int .u8 a8, .int .u8 a9, .int .u8 a10, .int .u8 a11, .int .u8 a12, .int .u8 a13, .int .u8 a14, .int .u8 a15]] w fun e w' => e = .returned (strV (own6 [a0 * 256 + a1, a2 * 256 + a3, a4 * 256 + a5, a6 * 256 + a7, a8 * 256 + a9, a10 * 256 + a11, a12 * 256 + a13, a14 * 256 + a15])) ∧ Below w.heap.size w w' := by
  have HT : Hid _ := ht
  clear ht
  have HGC : Hid _ := fun W => groups_calls a0 a1 a2 a3 a4 a5 a6 a7 a8 a9 a10 a11 a12 a13 a14 a15 h0 h1 h2 h3 h4 h5 h6 h7 h8 h9 h10 h11 h12 h13 h14 h15 W
  have hG : ∀ x ∈ [a0 * 256 + a1, a2 * 256 + a3, a4 * 256 + a5, a6 * 256 + a7, a8 * 256 + a9, a10 * 256 + a11, a12 * 256 + a13, a14 * 256 + a15], 0 ≤ x ∧ x < 65536 := by
    intro x hx
    simp only [List.mem_cons, List.not_mem_nil, or_false] at hx
    rcases hx with rfl | rfl | rfl | rfl | rfl | rfl | rfl | rfl <;> omega
  have hB0 := (Below.refl w.heap.size w).alloc (Nat.le_refl _) (.cells #[.int .u8 a0, .int .u8 a1, .int .u8 a2, .int .u8 a3, .int .u8 a4, .int .u8 a5, .int .u8 a6, .int .u8 a7, .int .u8 a8, .int .u8 a9, .int .u8 a10, .int .u8 a11, .int .u8 a12, .int .u8 a13, .int .u8 a14, .int .u8 a15] 31)
  obtain ⟨G, hGe⟩ : ∃ G, G = [a0 * 256 + a1, a2 * 256 + a3, a4 * 256 + a5, a6 * 256 + a7, a8 * 256 + a9, a10 * 256 + a11, a12 * 256 + a13, a14 * 256 + a15] := ⟨_, rfl⟩
  have hGl : G.length = 8 := by rw [hGe]; rfl
  rw [← hGe] at hG ⊢
  have HGE : Hid _ := hGe
  clear hGe
  generalize hO : own6 G = OW
  have HO : Hid _ := hO
  clear hO
  go_enter Tryd.func20, Tryd.ntmps20
  go_wp2_with fail
  refine (HGC.out _).mono ?_
  rintro e w1 ⟨rfl, hB1⟩
  have hB := hB0.trans (hB1.mono hB0.size)
  have hB2 := hB.alloc hB.size (.cells #[.int .u16 (a0 * 256 + a1), .int .u16 (a2 * 256 + a3), .int .u16 (a4 * 256 + a5), .int .u16 (a6 * 256 + a7), .int .u16 (a8 * 256 + a9), .int .u16 (a10 * 256 + a11), .int .u16 (a12 * 256 + a13), .int .u16 (a14 * 256 + a15)] 94)
  have hg : w1.heap.size < (w1.alloc (.cells #[.int .u16 (a0 * 256 + a1), .int .u16 (a2 * 256 + a3), .int .u16 (a4 * 256 + a5), .int .u16 (a6 * 256 + a7), .int .u16 (a8 * 256 + a9), .int .u16 (a10 * 256 + a11), .int .u16 (a12 * 256 + a13), .int .u16 (a14 * 256 + a15)] 94)).heap.size := by simp
  have hc : ∀ (j : Nat) x, G[j]? = some x → (w1.alloc (.cells #[.int .u16 (a0 * 256 + a1), .int .u16 (a2 * 256 + a3), .int .u16 (a4 * 256 + a5), .int .u16 (a6 * 256 + a7), .int .u16 (a8 * 256 + a9), .int .u16 (a10 * 256 + a11), .int .u16 (a12 * 256 + a13), .int .u16 (a14 * 256 + a15)] 94)).cell? ⟨w1.heap.size, j, none⟩ = some (.int .u16 x) := by
    intro j x hj
    rw [World.cell?_alloc_new]
    rw [HGE.out] at hj
    have : (([a0 * 256 + a1, a2 * 256 + a3, a4 * 256 + a5, a6 * 256 + a7, a8 * 256 + a9, a10 * 256 + a11, a12 * 256 + a13, a14 * 256 + a15]).map (fun z => Value.int .u16 z))[j]? = some (.int .u16 x) := by rw [List.getElem?_map, hj]; rfl
    simpa using this
  go_wp2_with fail
  generalize w1.alloc (.cells #[.int .u16 (a0 * 256 + a1), .int .u16 (a2 * 256 + a3), .int .u16 (a4 * 256 + a5), .int .u16 (a6 * 256 + a7), .int .u16 (a8 * 256 + a9), .int .u16 (a10 * 256 + a11), .int .u16 (a12 * 256 + a13), .int .u16 (a14 * 256 + a15)] 94) = w2 at *
  generalize w1.heap.size = g at *
  have HGAP : Hid _ := gap_calls G hG hGl g 8 w2 hc
  have hTz : Tz w2 := Tz.on HT.out hB2
  have hex : ∀ (o n : Nat) (c : Nat) W, o + n ≤ 8 → Below w2.heap.size w2 W → Calls Tryd.prog 61 #[.slice (some ⟨g, o, none⟩) n c] W fun e w' => e = .returned (strV (jn ((G.drop o).take n))) ∧ Below W.heap.size W w' := by
    intro o n c W hon hW
    have hl2 : ((G.drop o).take n).length = n := by simp; omega
    have h := hexes_calls ((G.drop o).take n) (fun z hz => hG z (List.mem_of_mem_drop (List.mem_of_mem_take hz))) (by rw [hl2]; omega) g o c W (hTz.on hW).2 (hTz.on hW).1 (Nat.lt_of_lt_of_le hg hW.size) (fun j z hj => by
      have hjn : j < n := by
        have := (List.getElem?_eq_some_iff.1 hj).1
        omega
      rw [List.getElem?_take_of_lt hjn, List.getElem?_drop] at hj
      exact (hW.cell (p := ⟨g, o + j, none⟩) hg).trans (hc (o + j) z hj))
    rw [hl2] at h
    exact h
  have HX : Hid _ := hex
  obtain ⟨i1, i2, _⟩ := gapK_ok (zb G) 8
  clear hex hc hTz hg hB HGC
  refine Calls.mono HGAP.out ?_
  rintro e w3 ⟨rfl, rfl⟩
  clear HGAP
  have hOW : OW = if (gapK (zb G) 8).2.1 = 0 then jn G else jn (G.take (gapK (zb G) 8).1) ++ [58, 58] ++ jn (G.drop (gapK (zb G) 8).2.1) := HO.out.symm
  generalize gapK (zb G) 8 = gp at *
  obtain ⟨f, t, s⟩ := gp
  simp only at i1 i2 hOW
  by_cases h0 : t = 0
  · rw [if_pos h0] at hOW
    have q : ((t : Int) == 0) = true := beq_iff_eq.2 (by omega)
    have HA : Hid (Calls Tryd.prog 61 #[.slice (some ⟨g, 0, none⟩) 8 8] w3 fun e w' => e = .returned (strV OW) ∧ Below w3.heap.size w3 w') := by
      have h := HX.out 0 8 8 w3 (by omega) (Below.refl _ _)
      rw [List.drop_zero, List.take_of_length_le (by omega), ← hOW] at h
      exact h
    clear HX hOW h0
    go_wp2_with fail
    refine Calls.mono HA.out ?_
    rintro e w4 ⟨rfl, hB4⟩
    go_wp2
    go_ret
    exact ⟨rfl, hB2.trans (hB4.mono hB2.size)⟩
  · rw [if_neg h0] at hOW
    have q : ((t : Int) == 0) = false := beq_eq_false_iff_ne.2 (by omega)
    have HA : Hid (∀ W, Below w3.heap.size w3 W → Calls Tryd.prog 61 #[.slice (some ⟨g, 0, none⟩) f 8] W fun e w' => e = .returned (strV (jn (G.take f))) ∧ Below W.heap.size W w') := fun W hW => by
      have h := HX.out 0 f 8 W (by omega) hW
      rw [List.drop_zero] at h
      exact h
    have HD : Hid (∀ c W, Below w3.heap.size w3 W → Calls Tryd.prog 61 #[.slice (some ⟨g, t, none⟩) (8 - t) c] W fun e w' => e = .returned (strV (jn (G.drop t))) ∧ Below W.heap.size W w') := fun c W hW => by
      have h := HX.out t (8 - t) c W (by omega) hW
      rw [List.take_of_length_le (by simp; omega)] at h
      exact h
    have l1 := jn_len (G.take f) (by simp; omega)
    have l2 := jn_len (G.drop t) (by simp; omega)
    have hY8 : 8 ≤ t → jn [] = jn (G.drop t) := fun h => by rw [List.drop_eq_nil_of_le (by omega)]
    generalize jn (G.take f) = X at *
    generalize jn (G.drop t) = Y at *
    by_cases ht8 : t < 8
    · have HE : Hid (∀ W, Below w3.heap.size w3 W → Calls Tryd.prog 61 #[.slice (some ⟨g, t, none⟩) (8 - t) (8 - t)] W fun e w' => e = .returned (strV Y) ∧ Below W.heap.size W w') := fun W hW => HD.out _ W hW
      have q2 : (t : Int) ≤ 8 := by omega
      have q3 : (f : Int) ≤ 8 := by omega
      have q4 : ¬ (8 - t = 0) := by omega
      clear HD
      go_wp2_with fail
      refine wp_region_hi (by kernel_rfl) (by kernel_rfl) ?_
      repeat (go_big_quiet_step (first | (go_at_call_of 61 (Value.slice (some { block := g, off := 0 }) f 8); exact Hi.calls (HA.out _ (Hi.below _))) | (go_at_call 61; exact Hi.calls (HE.out _ (Hi.below _)))))
      refine wpQuiet_nil ?_
      intro _ hw
      obtain ⟨y, rfl⟩ := hw
      go_wp2
      go_ret
      refine ⟨?_, hB2.trans (y.below.mono hB2.size)⟩
      rw [hOW]
      exact congrArg (fun x => Ending.returned (Value.string x)) ((congrArg (· ++ (⟨Y.toArray⟩ : ByteArray)) (str_app X [58, 58])).trans (str_app (X ++ [58, 58]) Y))
    · obtain rfl : t = 8 := by omega
      have HE : Hid (∀ W, Below w3.heap.size w3 W → Calls Tryd.prog 61 #[.slice (some ⟨g, 0, none⟩) 0 0] W fun e w' => e = .returned (strV Y) ∧ Below W.heap.size W w') := fun W hW => by
        have h := HX.out 0 0 0 W (by omega) hW
        have e : jn ((G.drop 0).take 0) = Y := by rw [← hY8 (by omega)]; simp
        rw [e] at h
        exact h
      have q3 : (f : Int) ≤ 8 := by omega
      clear HD HX
      go_wp2_with fail
      refine wp_region_hi (by kernel_rfl) (by kernel_rfl) ?_
      repeat (go_big_quiet_step (first | (go_at_call_of 61 (Value.slice (some { block := g, off := 0 }) f 8); exact Hi.calls (HA.out _ (Hi.below _))) | (go_at_call 61; exact Hi.calls (HE.out _ (Hi.below _)))))
      refine wpQuiet_nil ?_
      intro _ hw
      obtain ⟨y, rfl⟩ := hw
      go_wp2
      go_ret
      refine ⟨?_, hB2.trans (y.below.mono hB2.size)⟩
      rw [hOW]
      exact congrArg (fun x => Ending.returned (Value.string x)) ((congrArg (· ++ (⟨Y.toArray⟩ : ByteArray)) (str_app X [58, 58])).trans (str_app (X ++ [58, 58]) Y))

end Go.Proofs.YtlpbffcijhgelaaDoor

namespace Go.Proofs.YtlpbffcijhgelaaDoor
open Go Go.RowKit
set_option linter.unusedVariables false
set_option linter.unusedSimpArgs false

def Reader.takes {σ : Type} (R : Reader σ) : List UInt8 → σ → Option σ
  | [], s => some s
  | c :: l, s => (R.take s ((c.toNat : Nat) : Int)).bind (R.takes l)
theorem Reader.takes_app {σ : Type} (R : Reader σ) : ∀ (l m : List UInt8) (s : σ), R.takes (l ++ m) s = (R.takes l s).bind (R.takes m)
  | [], m, s => rfl
  | c :: l, m, s => by
    show (R.take s _).bind (R.takes (l ++ m)) = ((R.take s _).bind (R.takes l)).bind (R.takes m)
    cases R.take s ((c.toNat : Nat) : Int) with
    | none => rfl
    | some s' => exact Reader.takes_app R l m s'
theorem Reader.takes_on {σ : Type} {R : Reader σ} {l m : List UInt8} {s s' s'' : σ} (h : R.takes l s = some s') (g : R.takes m s' = some s'') : R.takes (l ++ m) s = some s'' := by
  rw [Reader.takes_app, h]
  exact g
theorem Reader.read_takes {σ : Type} (R : Reader σ) : ∀ (l : List UInt8) (pos : Nat) (s s' : σ), R.takes l s = some s' → R.whole s' = true → R.read l pos s = .good s'
  | [], pos, s, s', h, hw => by
    cases h
    unfold Reader.read
    rw [if_pos hw]
  | c :: l, pos, s, s', h, hw => by
    unfold Reader.read
    unfold Reader.takes at h
    cases ht : R.take s ((c.toNat : Nat) : Int) with
    | none => rw [ht] at h; cases h
    | some s2 =>
      rw [ht] at h
      exact Reader.read_takes R l (pos + 1) s2 s' h hw

/-! Four bytes. -/
def numT : List UInt8 → Num → Option Num
  | [], n => some n
  | c :: l, n => (n.take ((c.toNat : Nat) : Int) 255).bind (numT l)
def dec3 (a : Nat) : List UInt8 := if a < 10 then [UInt8.ofNat (48 + a)] else if a < 100 then [UInt8.ofNat (48 + a / 10), UInt8.ofNat (48 + a % 10)] else [UInt8.ofNat (48 + a / 10 / 10), UInt8.ofNat (48 + a / 10 % 10), UInt8.ofNat (48 + a % 10)]
theorem itoa_dec3 (a : Int) (h : 0 ≤ a ∧ a < 256) : Lib.itoa a = dec3 a.toNat := by
  obtain ⟨n, rfl⟩ := Int.eq_ofNat_of_zero_le h.1
  rw [Lib.itoa, if_neg (by omega)]
  show Lib.decDigits n = dec3 n
  have hn : n < 256 := by omega
  unfold dec3
  by_cases h1 : n < 10
  · rw [if_pos h1, Lib.decDigits_one h1]
  · rw [if_neg h1]
    by_cases h2 : n < 100
    · rw [if_pos h2, Lib.decDigits_two h1 h2]
    · rw [if_neg h2, Lib.decDigits, dif_neg h1, Lib.decDigits_two (by omega) (by omega)]
      rfl
set_option maxRecDepth 100000 in
theorem dec3_num : ∀ a, a < 256 → numT (dec3 a) Num.new = some ⟨(a : Int), true⟩ := by decide +kernel
set_option maxRecDepth 100000 in
theorem dec3_dig : ∀ a, a < 256 → ∀ c ∈ dec3 a, c ≠ 46 := by decide +kernel
theorem dot_takes : ∀ (l : List UInt8) (d : Dot), (∀ c ∈ l, c ≠ 46) → dotReader.takes l d = (numT l d.num).map (fun n => { d with num := n })
  | [], d, _ => rfl
  | c :: l, d, h => by
    have hc := h c (by simp)
    have h46 : ((c.toNat : Nat) : Int) ≠ 46 := fun e => hc (UInt8.toNat_inj.1 (by show c.toNat = 46; omega))
    show (Dot.take d _).bind _ = _
    rw [Dot.take, if_pos h46, numT]
    cases d.num.take ((c.toNat : Nat) : Int) 255 with
    | none => rfl
    | some n =>
      have := dot_takes l { d with num := n } (fun x hx => h x (by simp [hx]))
      exact this
theorem dot_octet (a : Int) (h : 0 ≤ a ∧ a < 256) (e0 e1 e2 c : Int) : dotReader.takes (Lib.itoa a) ⟨e0, e1, e2, c, .new⟩ = some ⟨e0, e1, e2, c, ⟨a, true⟩⟩ := by
  rw [itoa_dec3 a h, dot_takes _ _ (dec3_dig _ (by omega))]
  show (numT _ Num.new).map _ = _
  rw [dec3_num _ (by omega)]
  have : ((a.toNat : Nat) : Int) = a := by omega
  rw [this]
  rfl
theorem parse_text4 (a0 a1 a2 a3 : Int) (h0 : 0 ≤ a0 ∧ a0 < 256) (h1 : 0 ≤ a1 ∧ a1 < 256) (h2 : 0 ≤ a2 ∧ a2 < 256) (h3 : 0 ≤ a3 ∧ a3 < 256) : parse4 (text4 [a0, a1, a2, a3]) = ([a0, a1, a2, a3], 0, 0) := by
  have e : text4 [a0, a1, a2, a3] = Lib.itoa a0 ++ ([46] ++ (Lib.itoa a1 ++ ([46] ++ (Lib.itoa a2 ++ ([46] ++ Lib.itoa a3))))) := by
    simp [text4, Lib.join_cons, Lib.joinTail]
  have h : dotReader.takes (text4 [a0, a1, a2, a3]) .new = some ⟨a0, a1, a2, 3, ⟨a3, true⟩⟩ := by
    rw [e]
    refine Reader.takes_on (dot_octet a0 h0 0 0 0 0) (Reader.takes_on (s' := ⟨a0, 0, 0, 1, .new⟩) rfl ?_)
    refine Reader.takes_on (dot_octet a1 h1 a0 0 0 1) (Reader.takes_on (s' := ⟨a0, a1, 0, 2, .new⟩) rfl ?_)
    refine Reader.takes_on (dot_octet a2 h2 a0 a1 0 2) (Reader.takes_on (s' := ⟨a0, a1, a2, 3, .new⟩) rfl ?_)
    exact dot_octet a3 h3 a0 a1 a2 3
  unfold parse4
  rw [Reader.read_takes dotReader _ 0 _ _ h rfl]
  rfl

/-! Eight groups. -/
abbrev gS (e : List Int) (p : List UInt8) (v c : Int) (gp : Bool) (ga : Int) : Grp := ⟨e, p, v, c, gp, ga, false, .new⟩
theorem hexd_ok : ∀ n, n < 16 → ((hexd n).toNat : Int) ≠ 58 ∧ ((hexd n).toNat : Int) ≠ 46 ∧ hexv ((hexd n).toNat : Int) = some (n : Int) := by decide
theorem digit_step (n : Nat) (hn : n < 16) (e : List Int) (p : List UInt8) (v c : Int) (gp : Bool) (ga : Int) (hl : (gS e p v c gp ga).lone = false) (hr : (gS e p v c gp ga).room ≠ 0) (hp : p.length ≠ 4) :
    grpReader.take (gS e p v c gp ga) ((hexd n).toNat : Int) = some (gS e (p ++ [hexd n]) (v * 16 % 65536 + n) 0 gp ga) := by
  obtain ⟨h1, h2, h3⟩ := hexd_ok n hn
  have et : grpReader.take = Grp.take := rfl
  rw [et]
  unfold Grp.take
  rw [if_neg (by simp), if_neg h1, if_neg h2]
  unfold Grp.digit
  rw [h3]
  simp only
  rw [if_neg]
  · simp
  · rw [hl]
    simp [hr, hp]
theorem grp_hex (z : Int) (hz : 0 ≤ z ∧ z < 65536) (e : List Int) (c : Int) (gp : Bool) (ga : Int) (hl : (gS e [] 0 c gp ga).lone = false) (hr : (gS e [] 0 c gp ga).room ≠ 0) :
    grpReader.takes (hexText z) (gS e [] 0 c gp ga) = some (gS e (hexText z) z 0 gp ga) := by
  have l0 : ∀ p v, (gS e p v 0 gp ga).lone = false := fun p v => by simp [Grp.lone]
  have r0 : ∀ p v, (gS e p v 0 gp ga).room ≠ 0 := fun p v => hr
  unfold hexText
  by_cases c1 : z < 16
  · rw [if_pos c1]
    simp only [Reader.takes]
    rw [digit_step _ (by omega) e [] 0 c gp ga hl hr (by simp)]
    simp only [Option.bind_some, List.nil_append]
    congr 2
    omega
  · rw [if_neg c1]
    by_cases c2 : z < 256
    · rw [if_pos c2]
      simp only [Reader.takes]
      rw [digit_step _ (by omega) e [] 0 c gp ga hl hr (by simp)]
      simp only [Option.bind_some, List.nil_append]
      rw [digit_step _ (by omega) e _ _ 0 gp ga (l0 _ _) (r0 _ _) (by simp)]
      simp only [Option.bind_some, List.nil_append, List.cons_append]
      congr 2
      omega
    · rw [if_neg c2]
      by_cases c3 : z < 4096
      · rw [if_pos c3]
        simp only [Reader.takes]
        rw [digit_step _ (by omega) e [] 0 c gp ga hl hr (by simp)]
        simp only [Option.bind_some, List.nil_append]
        rw [digit_step _ (by omega) e _ _ 0 gp ga (l0 _ _) (r0 _ _) (by simp)]
        simp only [Option.bind_some, List.nil_append, List.cons_append]
        rw [digit_step _ (by omega) e _ _ 0 gp ga (l0 _ _) (r0 _ _) (by simp)]
        simp only [Option.bind_some, List.nil_append, List.cons_append]
        congr 2
        omega
      · rw [if_neg c3]
        simp only [Reader.takes]
        rw [digit_step _ (by omega) e [] 0 c gp ga hl hr (by simp)]
        simp only [Option.bind_some, List.nil_append]
        rw [digit_step _ (by omega) e _ _ 0 gp ga (l0 _ _) (r0 _ _) (by simp)]
        simp only [Option.bind_some, List.nil_append, List.cons_append]
        rw [digit_step _ (by omega) e _ _ 0 gp ga (l0 _ _) (r0 _ _) (by simp)]
        simp only [Option.bind_some, List.nil_append, List.cons_append]
        rw [digit_step _ (by omega) e _ _ 0 gp ga (l0 _ _) (r0 _ _) (by simp)]
        simp only [Option.bind_some, List.nil_append, List.cons_append]
        congr 2
        omega

/-- Groups as bytes. -/
def byt (l : List Int) : List Int := l.flatMap (fun z => [z / 256, z % 256])
theorem byt_len (l : List Int) : (byt l).length = 2 * l.length := by
  induction l with
  | nil => rfl
  | cons x l ih => simp [byt] at ih ⊢; omega
theorem byt_app (l m : List Int) : byt (l ++ m) = byt l ++ byt m := by simp [byt]
theorem hexText_ne (z : Int) : hexText z ≠ [] := by
  unfold hexText
  split
  · simp
  · split
    · simp
    · split <;> simp

theorem colon_step (e : List Int) (p : List UInt8) (v : Int) (gp : Bool) (ga : Int) (hp : p ≠ []) (hr : 2 < (gS e p v 0 gp ga).room) :
    grpReader.takes [58] (gS e p v 0 gp ga) = some (gS (e ++ [v / 256, v % 256]) [] 0 1 gp ga) := by
  have et : grpReader.takes [58] (gS e p v 0 gp ga) = (Grp.take (gS e p v 0 gp ga) 58).bind some := rfl
  rw [et]
  unfold Grp.take
  rw [if_neg (by simp), if_pos rfl, if_neg hp]
  unfold Grp.colon
  rw [if_neg (by omega)]
  rfl
theorem room_val (e : List Int) (p : List UInt8) (v c : Int) (gp : Bool) (ga : Int) : (gS e p v c gp ga).room = if gp then (14 : Int) - e.length else (16 : Int) - e.length := rfl
theorem jn_cons2 (x y : Int) (l : List Int) : jn (x :: y :: l) = hexText x ++ ([58] ++ jn (y :: l)) := by simp [jn, Lib.join_cons, Lib.joinTail]
theorem grp_jn (gp : Bool) (ga : Int) : ∀ (r : List Int) (x : Int) (e : List Int) (c : Int), (∀ z ∈ x :: r, 0 ≤ z ∧ z < 65536) → (gS e [] 0 c gp ga).lone = false → (e.length : Int) + 2 * (r.length + 1) ≤ (if gp then 14 else 16) →
    ∃ q z, q ≠ [] ∧ grpReader.takes (jn (x :: r)) (gS e [] 0 c gp ga) = some (gS (e ++ byt ((x :: r).dropLast)) q z 0 gp ga) ∧ byt ((x :: r).dropLast) ++ [z / 256, z % 256] = byt (x :: r)
  | [], x, e, c, hz, hl, hr => by
    refine ⟨hexText x, x, hexText_ne x, ?_, rfl⟩
    have e1 : jn [x] = hexText x := by simp [jn, Lib.join_cons, Lib.joinTail]
    rw [e1, grp_hex x (hz x (by simp)) e c gp ga hl (by rw [room_val]; simp at hr; split <;> simp_all <;> omega)]
    simp [byt]
  | y :: r, x, e, c, hz, hl, hr => by
    have hrm : 2 < (gS e (hexText x) x 0 gp ga).room := by
      rw [room_val]
      simp only [List.length_cons] at hr
      cases gp <;> simp at hr ⊢ <;> omega
    obtain ⟨q, z, h1, h2, h3⟩ := grp_jn gp ga r y (e ++ [x / 256, x % 256]) 1 (fun z h => hz z (by simp at h ⊢; exact .inr h)) (by simp [Grp.lone]) (by
      simp only [List.length_cons, List.length_append, List.length_nil] at hr ⊢
      omega)
    refine ⟨q, z, h1, ?_, ?_⟩
    · rw [jn_cons2]
      refine Reader.takes_on (grp_hex x (hz x (by simp)) e c gp ga hl (by
        have : (gS e [] 0 c gp ga).room = (gS e (hexText x) x 0 gp ga).room := rfl
        omega)) (Reader.takes_on (colon_step e (hexText x) x gp ga (hexText_ne x) hrm) ?_)
      rw [h2]
      have : byt ((x :: y :: r).dropLast) = [x / 256, x % 256] ++ byt ((y :: r).dropLast) := rfl
      rw [this, List.append_assoc]
    · have e1 : byt ((x :: y :: r).dropLast) = [x / 256, x % 256] ++ byt ((y :: r).dropLast) := rfl
      have e2 : byt (x :: y :: r) = [x / 256, x % 256] ++ byt (y :: r) := rfl
      rw [e1, e2, List.append_assoc, h3]

set_option maxRecDepth 100000 in
theorem gap_zero : ∀ b0 b1 b2 b3 b4 b5 b6 b7 : Bool, ((gapK [b0, b1, b2, b3, b4, b5, b6, b7] 8).2.1 = 0 ∨ (gapK [b0, b1, b2, b3, b4, b5, b6, b7] 8).1 + 2 ≤ (gapK [b0, b1, b2, b3, b4, b5, b6, b7] 8).2.1) ∧
    (∀ i, i < 8 → (gapK [b0, b1, b2, b3, b4, b5, b6, b7] 8).1 ≤ i → i < (gapK [b0, b1, b2, b3, b4, b5, b6, b7] 8).2.1 → [b0, b1, b2, b3, b4, b5, b6, b7][i]? = some true) := by decide +kernel

theorem colons_two (e : List Int) (c : Int) (h : c = 1 ∨ (c = 0 ∧ e = [])) : ∃ m, grpReader.takes m (gS e [] 0 c false 0) = some (gS e [] 0 2 true e.length) ∧ (c = 1 → m = [58]) ∧ (c = 0 → m = [58, 58]) := by
  rcases h with rfl | ⟨rfl, rfl⟩
  · exact ⟨[58], rfl, fun _ => rfl, fun h => absurd h (by decide)⟩
  · exact ⟨[58, 58], rfl, fun h => absurd h (by decide), fun _ => rfl⟩

theorem parse_own6 (G : List Int) (hG : ∀ x ∈ G, 0 ≤ x ∧ x < 65536) (hl : G.length = 8) : parse6 (own6 G) = (byt G, 0, 0) := by
  have hz : ∃ b0 b1 b2 b3 b4 b5 b6 b7, zb G = [b0, b1, b2, b3, b4, b5, b6, b7] := by
    match G, hl with
    | [g0, g1, g2, g3, g4, g5, g6, g7], _ => exact ⟨_, _, _, _, _, _, _, _, rfl⟩
  obtain ⟨b0, b1, b2, b3, b4, b5, b6, b7, hz⟩ := hz
  obtain ⟨h1, h2⟩ := gap_zero b0 b1 b2 b3 b4 b5 b6 b7
  obtain ⟨i1, i2, _⟩ := gapK_ok (zb G) 8
  rw [← hz] at h1 h2
  unfold own6
  generalize gapK (zb G) 8 = gp at *
  obtain ⟨f, t, s⟩ := gp
  simp only at i1 i2 h1 h2 ⊢
  have key : ∀ (T : List UInt8) (g : Grp), grpReader.takes T .new = some g → g.whole = true → g.addr = byt G → parse6 T = (byt G, 0, 0) := by
    intro T g ht hw ha
    unfold parse6
    rw [Reader.read_takes grpReader _ 0 _ _ ht hw]
    simp only [ha]
  by_cases h0 : t = 0
  · rw [if_pos h0]
    match G, hl, hG with
    | x :: r, hl, hG =>
      simp only [List.length_cons] at hl
      obtain ⟨q, z, hq, ht, hb⟩ := grp_jn false 0 r x [] 0 hG rfl (by simp; omega)
      refine key _ _ ht ?_ ?_
      · have := byt_len ((x :: r).dropLast)
        simp only [List.length_dropLast, List.length_cons] at this
        simp [Grp.whole, hq, Grp.room]
        omega
      · simp [Grp.addr, Grp.given, hq]
        exact hb
  · rw [if_neg h0]
    have hft : f + 2 ≤ t := by omega
    have hmid : (G.drop f).take (t - f) = List.replicate (t - f) 0 := by
      refine List.ext_getElem? fun i => ?_
      by_cases c : i < t - f
      · rw [List.getElem?_take_of_lt c, List.getElem?_drop, List.getElem?_replicate, if_pos c]
        have := h2 (f + i) (by omega) (by omega) (by omega)
        rw [zb, List.getElem?_map] at this
        cases hx : G[f + i]? with
        | none => rw [hx] at this; cases this
        | some x =>
          rw [hx] at this
          simp at this
          rw [this]
      · rw [List.getElem?_eq_none (by simp; omega), List.getElem?_eq_none (by simp; omega)]
    have hsplit : G = G.take f ++ (List.replicate (t - f) 0 ++ G.drop t) := by
      rw [← hmid]
      conv => lhs; rw [← List.take_append_drop f G]
      congr 1
      conv => lhs; rw [← List.take_append_drop (t - f) (G.drop f)]
      rw [List.drop_drop]
      congr 2
      omega
    have hbr : ∀ n, byt (List.replicate n 0) = List.replicate (2 * n) 0 := by
      intro n
      induction n with
      | zero => rfl
      | succ n ih =>
        have : byt (List.replicate (n + 1) 0) = [0, 0] ++ byt (List.replicate n 0) := rfl
        rw [this, ih]
        rw [show 2 * (n + 1) = 2 * n + 1 + 1 by omega]
        rfl
    have hbG : byt G = byt (G.take f) ++ (List.replicate (2 * (t - f)) 0 ++ byt (G.drop t)) := by
      conv => lhs; rw [hsplit]
      rw [byt_app, byt_app, hbr]
    have hlf : (byt (G.take f)).length = 2 * f := by rw [byt_len, List.length_take]; omega
    have hlt : (byt (G.drop t)).length = 2 * (8 - t) := by rw [byt_len, List.length_drop]; omega
    have hfirst : grpReader.takes (jn (G.take f) ++ [58, 58]) .new = some (gS (byt (G.take f)) [] 0 2 true (2 * f : Nat)) := by
      by_cases hf : f = 0
      · subst hf
        have e0 : jn (G.take 0) = [] := by simp [jn, Lib.join_nil]
        rw [e0]
        rfl
      · match hG' : G.take f with
        | [] =>
          have := congrArg List.length hG'
          simp only [List.length_take, List.length_nil] at this
          omega
        | x :: r =>
          have hlen := congrArg List.length hG'
          simp only [List.length_take, List.length_cons] at hlen
          obtain ⟨q, z, hq, ht, hb⟩ := grp_jn false 0 r x [] 0 (fun z h => hG z (List.mem_of_mem_take (by rw [hG']; exact h))) rfl (by simp; omega)
          have hd := byt_len ((x :: r).dropLast)
          simp only [List.length_dropLast, List.length_cons] at hd
          rw [show ([58, 58] : List UInt8) = [58] ++ [58] from rfl]
          refine Reader.takes_on ht (Reader.takes_on (colon_step _ q z false 0 hq (by rw [room_val]; simp; omega)) ?_)
          rw [List.nil_append, hb]
          have hlb : (byt (x :: r)).length = 2 * f := by rw [← hG']; exact hlf
          show some _ = some _
          rw [← hlb]
    by_cases ht8 : t = 8
    · have e0 : jn (G.drop t) = [] := by rw [List.drop_eq_nil_of_le (by omega)]; simp [jn, Lib.join_nil]
      rw [e0, List.append_nil]
      refine key _ _ hfirst rfl ?_
      have e1 : byt (G.drop t) = [] := by rw [List.drop_eq_nil_of_le (by omega)]; rfl
      rw [hbG, e1]
      simp only [Grp.addr, Grp.given, if_true, Bool.false_eq_true, if_false, ne_eq, not_true_eq_false, hlf]
      rw [Int.toNat_natCast, List.take_of_length_le (by omega), List.drop_eq_nil_of_le (by omega), List.append_nil, List.append_nil, show 16 - 2 * f = 2 * (t - f) by omega]
    · match hG' : G.drop t with
      | [] =>
        have := congrArg List.length hG'
        simp at this
        omega
      | x :: r =>
        have hlen := congrArg List.length hG'
        simp only [List.length_drop, List.length_cons] at hlen
        obtain ⟨q, z, hq, ht, hb⟩ := grp_jn true (2 * f : Nat) r x (byt (G.take f)) 2 (fun z h => hG z (List.mem_of_mem_drop (by rw [hG']; exact h))) rfl (by rw [hlf]; simp; omega)
        refine key _ _ (Reader.takes_on hfirst ht) (by simp [Grp.whole, hq]) ?_
        rw [hbG]
        rw [hG'] at hlt
        simp only [Grp.addr, Grp.given, if_true, Bool.false_eq_true, if_false, ne_eq, hq, not_false_eq_true]
        have ea : byt (G.take f) ++ byt ((x :: r).dropLast) ++ [z / 256, z % 256] = byt (G.take f) ++ byt (x :: r) := by rw [List.append_assoc, hb]
        rw [ea, Int.toNat_natCast, List.take_left' hlf, List.drop_left' hlf, List.length_append, hlf, hlt, show 16 - (2 * f + 2 * (8 - t)) = 2 * (t - f) by omega, hG', List.append_assoc]

end Go.Proofs.YtlpbffcijhgelaaDoor

namespace Go.Proofs.YtlpbffcijhgelaaDoor
open Go Go.RowKit
set_option linter.unusedVariables false
set_option linter.unusedSimpArgs false

set_option maxHeartbeats 1000000 in
theorem format16 (u : Int) (hu : 0 ≤ u ∧ u < 65536) (w : World) (ht : Tz w) :
    Calls Tryd.prog 81 #[.int .i64 u, .int .i64 16] w fun e w' => e = .returned (strV (hexText u)) ∧ Below w.heap.size w w' := by
  have hb := bits16 u hu w (ht.2 w (Below.refl _ _)) ht.1
  have HB : Hid _ := hb
  clear hb
  generalize hexText u = s at *
  have q : ¬ u < 0 := by omega
  have qw : IntKind.u64.wrap u = u := by unfold IntKind.wrap; simp [IntKind.signed, IntKind.bits]; omega
  go_enter Tryd.func81, Tryd.ntmps81
  go_wp2_with fail
  refine Calls.mono HB.out ?_
  rintro e w' ⟨rfl, hB⟩
  go_wp2
  go_ret
  exact ⟨rfl, hB⟩
theorem formatInt16 (u : Int) (hu : 0 ≤ u ∧ u < 65536) (w : World) (ht : Tz w) :
    Calls Tryd.prog 63 #[.int .i64 u, .int .i64 16] w fun e w' => e = .returned (strV (hexText u)) ∧ Below w.heap.size w w' := by
  have hb := format16 u hu w ht
  have HB : Hid _ := hb
  clear hb
  generalize hexText u = s at *
  go_enter Tryd.func63, Tryd.ntmps63
  go_wp2_with fail
  refine Calls.mono HB.out ?_
  rintro e w' ⟨rfl, hB⟩
  go_wp2
  go_ret
  exact ⟨rfl, hB⟩

def zerB : List Bool → Nat
  | [] => 0
  | x :: l => if x then zerB l + 1 else 0
def zerC (l : List Int) : Nat := zerB (zb l)
theorem zerC_cons (x : Int) (l : List Int) : zerC (x :: l) = if x = 0 then zerC l + 1 else 0 := by
  show zerB ((x == 0) :: zb l) = _
  by_cases h : x = 0
  · rw [if_pos h, beq_iff_eq.2 h]; rfl
  · rw [if_neg h, beq_eq_false_iff_ne.2 h]; rfl
theorem zerB_le : ∀ l : List Bool, zerB l ≤ l.length
  | [] => Nat.le_refl _
  | x :: l => by
    have := zerB_le l
    rw [zerB]
    split <;> simp <;> omega

set_option maxHeartbeats 1000000 in
theorem zeros_ref (g cap : Nat) (G : List Int) (fr : Nat) (w : World) (hl : G.length ≤ 100) (hf : fr ≤ G.length) (hg : ∀ z ∈ G, 0 ≤ z ∧ z < 65536) (hc : ∀ (j : Nat) z, G[j]? = some z → w.cell? ⟨g, j, none⟩ = some (.int .i64 z)) :
    Calls Tryd.prog 62 #[.slice (some ⟨g, 0, none⟩) G.length cap, .int .i64 fr] w fun e w' => e = .returned (.int .i64 (zerC (G.drop fr) : Nat)) ∧ w' = w := by
  generalize hR : zerC (G.drop fr) = R
  have HR : Hid _ := hR
  clear hR
  have HC : Hid _ := hc
  clear hc
  go_enter Tryd.func62, Tryd.ntmps62
  go_wp2
  go_loop [5] (fun i => ∃ k : Nat, fr + k ≤ G.length ∧ i = .int .i64 k ∧ R = k + zerC (G.drop (fr + k))) (fun i => G.length - (intOf i).toNat)
  case atStart => exact ⟨0, by omega, rfl, by rw [← HR.out]; simp⟩
  case round =>
    obtain ⟨k, hk, rfl, hrk⟩ := hrel
    have HK : Hid _ := hrk
    clear hrk HR
    by_cases hlt : fr + k < G.length
    · have hx : G[fr + k]? = some (G[fr + k]'hlt) := by simp
      have hck := HC.out (fr + k) _ hx
      have hd := drop_at hx
      have hz := hg _ (List.mem_of_getElem? hx)
      have q0 : (fr : Int) + k < (G.length : Int) := by omega
      have qi : ((fr : Int) + (k : Int)).toNat = fr + k := by omega
      by_cases h0 : (G[fr + k]'hlt) = 0
      · have he : R = (k + 1) + zerC (G.drop (fr + (k + 1))) := by
          rw [HK.out, hd, zerC_cons, if_pos h0, ← Nat.add_assoc fr k 1]
          omega
        have HE : Hid _ := he
        clear he
        rw [h0] at hck
        clear hd hx hz
        go_wp2
        exact ⟨⟨k + 1, by omega, by simp, HE.out⟩, by simp [intOf]; omega⟩
      · have he : R = k := by
          rw [HK.out, hd, zerC_cons, if_neg h0]
          omega
        have HE : Hid _ := he
        clear he
        have q1 : ((G[fr + k]'hlt) == 0) = false := by simpa using h0
        clear hd hx
        generalize (G[fr + k]'hlt) = z at *
        go_wp2
        go_ret
        exact ⟨by rw [HE.out]; rfl, rfl⟩
    · have HE : Hid (R = k) := by
        rw [HK.out, List.drop_eq_nil_of_le (by omega)]
        rfl
      have q0 : ¬ ((fr : Int) + k < (G.length : Int)) := by omega
      clear HK
      go_wp2
      go_ret
      exact ⟨by rw [HE.out]; rfl, rfl⟩

/-- Where the document's longest row of zeros begins, and how long it is, k groups on. -/
def bestK (z : List Bool) : Nat → Int × Nat
  | 0 => (-1, 1)
  | k + 1 => if (bestK z k).2 < zerB (z.drop k) then ((k : Int), zerB (z.drop k)) else bestK z k
theorem bestK_ok (z : List Bool) (hz : z.length = 8) : ∀ k, k ≤ 8 → -1 ≤ (bestK z k).1 ∧ (bestK z k).1 ≤ 8 ∧ 1 ≤ (bestK z k).2 ∧ (bestK z k).2 ≤ 8
  | 0, _ => by simp [bestK]
  | k + 1, h => by
    have ih := bestK_ok z hz k (by omega)
    rw [bestK]
    split
    · have := zerB_le (z.drop k)
      simp at this ⊢
      omega
    · exact ih
/-- What stands ahead of the next group. -/
def sep (s : List UInt8) : List UInt8 := if s = [] then s else if s.getLast? = some 58 then s else s ++ [58]
/-- The document's third loop. -/
def docR (G : List Int) (a : Int) (m : Nat) : Nat → Nat → List UInt8 → List UInt8
  | 0, _, s => s
  | n + 1, k, s => if 8 ≤ k then s else if (k : Int) = a then docR G a m n (k + m) (s ++ [58, 58]) else docR G a m n (k + 1) (sep s ++ hexText (G[k]?.getD 0))

theorem hexText_some (z : Int) : hexText z ≠ [] ∧ (0 ≤ z → z < 65536 → (hexText z).getLast? ≠ some 58) := by
  have hd : ∀ n : Nat, n < 16 → hexd n ≠ 58 := by decide
  unfold hexText
  refine ⟨?_, fun h0 h1 => ?_⟩
  · split
    · simp
    · split
      · simp
      · split <;> simp
  · split
    · simpa using hd _ (by omega)
    · split
      · simpa using hd _ (by omega)
      · split <;> simpa using hd _ (by omega)

theorem joinTail_snoc (r : List (List UInt8)) (x : List UInt8) : Lib.joinTail [58] (r ++ [x]) = Lib.joinTail [58] r ++ [58] ++ x := by
  induction r with
  | nil => simp [Lib.joinTail]
  | cons y r ih => simp [Lib.joinTail] at ih ⊢
theorem jn_snoc (l : List Int) (x : Int) : jn (l ++ [x]) = (if l = [] then [] else jn l ++ [58]) ++ hexText x := by
  unfold jn
  cases l with
  | nil => simp [Lib.join_cons, Lib.joinTail]
  | cons y r =>
    rw [if_neg (by simp), List.cons_append, List.map_cons, List.map_cons, List.map_append, Lib.join_cons, Lib.join_cons]
    have := joinTail_snoc (r.map hexText) (hexText x)
    simp only [List.map_cons, List.map_nil] at this ⊢
    rw [this]
    simp
theorem jn_last (l : List Int) (hl : l ≠ []) (h : ∀ z ∈ l, 0 ≤ z ∧ z < 65536) : jn l ≠ [] ∧ (jn l).getLast? ≠ some 58 := by
  obtain ⟨r, x, rfl⟩ : ∃ r x, l = r ++ [x] := ⟨l.dropLast, l.getLast hl, (List.dropLast_concat_getLast hl).symm⟩
  have hx := h x (by simp)
  obtain ⟨h1, h2⟩ := hexText_some x
  have h2 := h2 hx.1 hx.2
  rw [jn_snoc]
  generalize (if r = [] then [] else jn r ++ [58]) = P
  refine ⟨by simp [h1], ?_⟩
  rw [List.getLast?_append]
  cases hh : (hexText x).getLast? with
  | none => simp at hh; exact absurd hh h1
  | some c => rw [hh] at h2; simpa using h2
theorem sep_on (P : List UInt8) (hP : P = [] ∨ P.getLast? = some 58) (l : List Int) (h : ∀ z ∈ l, 0 ≤ z ∧ z < 65536) (x : Int) : sep (P ++ jn l) ++ hexText x = P ++ jn (l ++ [x]) := by
  rw [jn_snoc]
  by_cases hl : l = []
  · subst hl
    have e : jn [] = [] := by simp [jn, Lib.join_nil]
    rw [e, if_pos rfl]
    unfold sep
    rcases hP with rfl | hP
    · simp
    · simp [hP]
  · obtain ⟨h1, h2⟩ := jn_last l hl h
    rw [if_neg hl]
    unfold sep
    rw [if_neg (by simp [h1]), if_neg]
    · simp
    · rw [List.getLast?_append]
      cases hh : (jn l).getLast? with
      | none => simp at hh; exact absurd hh h1
      | some c => rw [hh] at h2; simpa using h2
theorem docR_on (G : List Int) (hG : ∀ x ∈ G, 0 ≤ x ∧ x < 65536) (hl : G.length = 8) (a : Int) (m : Nat) (P : List UInt8) (hP : P = [] ∨ P.getLast? = some 58) (r : Nat) : ∀ (d k : Nat) (l : List Int), (∀ z ∈ l, 0 ≤ z ∧ z < 65536) → k + d ≤ 8 → (∀ j : Nat, k ≤ j → j < k + d → (j : Int) ≠ a) →
    docR G a m (d + r) k (P ++ jn l) = docR G a m r (k + d) (P ++ jn (l ++ (G.drop k).take d))
  | 0, k, l, _, _, _ => by simp
  | d + 1, k, l, hz, hk, ha => by
    have hx : G[k]? = some (G[k]'(by omega)) := by simp
    have hb := hG _ (List.mem_of_getElem? hx)
    have e : d + 1 + r = (d + r) + 1 := by omega
    rw [e, docR, if_neg (by omega), if_neg (ha k (by omega) (by omega)), hx]
    have ed : (G.drop k).take (d + 1) = G[k]'(by omega) :: (G.drop (k + 1)).take d := by rw [drop_at hx]; rfl
    rw [ed]
    generalize G[k]'(by omega) = x at *
    rw [Option.getD_some, sep_on P hP l hz x, docR_on G hG hl a m P hP r d (k + 1) (l ++ [x]) (fun z h => by
      rcases List.mem_append.1 h with h | h
      · exact hz z h
      · simp at h; subst h; exact hb) (by omega) (fun j h1 h2 => ha j (by omega) (by omega))]
    have e1 : k + 1 + d = k + (d + 1) := by omega
    rw [e1]
    simp
theorem docR_end (G : List Int) (a : Int) (m : Nat) (s : List UInt8) : ∀ n k, 8 ≤ k → docR G a m n k s = s
  | 0, _, _ => rfl
  | n + 1, k, h => by rw [docR, if_pos h]

set_option maxRecDepth 100000 in
theorem best_gap : ∀ b0 b1 b2 b3 b4 b5 b6 b7 : Bool, (bestK [b0, b1, b2, b3, b4, b5, b6, b7] 8 = if (gapK [b0, b1, b2, b3, b4, b5, b6, b7] 8).2.1 = 0 then (-1, 1) else (((gapK [b0, b1, b2, b3, b4, b5, b6, b7] 8).1 : Int), (gapK [b0, b1, b2, b3, b4, b5, b6, b7] 8).2.1 - (gapK [b0, b1, b2, b3, b4, b5, b6, b7] 8).1)) ∧
    ((gapK [b0, b1, b2, b3, b4, b5, b6, b7] 8).2.1 = 0 ∨ (gapK [b0, b1, b2, b3, b4, b5, b6, b7] 8).1 < (gapK [b0, b1, b2, b3, b4, b5, b6, b7] 8).2.1) := by decide +kernel

theorem own_doc (G : List Int) (hG : ∀ x ∈ G, 0 ≤ x ∧ x < 65536) (hl : G.length = 8) : docR G (bestK (zb G) 8).1 (bestK (zb G) 8).2 8 0 [] = own6 G := by
  have hz : ∃ b0 b1 b2 b3 b4 b5 b6 b7, zb G = [b0, b1, b2, b3, b4, b5, b6, b7] := by
    match G, hl with
    | [g0, g1, g2, g3, g4, g5, g6, g7], _ => exact ⟨_, _, _, _, _, _, _, _, rfl⟩
  obtain ⟨b0, b1, b2, b3, b4, b5, b6, b7, hz⟩ := hz
  obtain ⟨h1, h2⟩ := best_gap b0 b1 b2 b3 b4 b5 b6 b7
  obtain ⟨i1, i2, _⟩ := gapK_ok (zb G) 8
  rw [← hz] at h1 h2
  unfold own6
  rw [h1]
  generalize gapK (zb G) 8 = gp at *
  obtain ⟨f, t, s⟩ := gp
  simp only at i1 i2 h2 ⊢
  have e0 : jn [] = [] := by simp [jn, Lib.join_nil]
  by_cases h0 : t = 0
  · rw [if_pos h0, if_pos h0]
    have h := docR_on G hG hl (-1) 1 [] (.inl rfl) 0 8 0 [] (by simp) (by omega) (fun j _ _ => by omega)
    simp only [List.nil_append, e0] at h
    rw [List.drop_zero, List.take_of_length_le (by omega)] at h
    exact h
  · rw [if_neg h0, if_neg h0]
    have hft : f < t := by omega
    have h := docR_on G hG hl f (t - f) [] (.inl rfl) (8 - f) f 0 [] (by simp) (by omega) (fun j _ _ => by omega)
    simp only [List.nil_append, e0] at h
    rw [List.drop_zero, Nat.zero_add, show f + (8 - f) = 8 by omega] at h
    simp only
    rw [h, show 8 - f = ((8 - t) + (t - f - 1)) + 1 by omega, docR, if_neg (by omega), if_pos rfl, show f + (t - f) = t by omega]
    have h2 := docR_on G hG hl f (t - f) (jn (G.take f) ++ [58, 58]) (.inr (by simp)) (t - f - 1) (8 - t) t [] (by simp) (by omega) (fun j _ _ => by omega)
    simp only [List.nil_append, e0, List.append_nil] at h2
    rw [h2, docR_end _ _ _ _ _ _ (by omega), List.take_of_length_le (l := G.drop t) (by rw [List.length_drop]; omega)]

end Go.Proofs.YtlpbffcijhgelaaDoor

namespace Go.Proofs.YtlpbffcijhgelaaDoor
open Go Go.RowKit
set_option linter.unusedVariables false
set_option linter.unusedSimpArgs false

def intsLR (xs : List Int) : List Value := xs.map (fun z => .int .i64 z)
/-- One number more. -/
theorem own_numR {w : World} {base : Nat} {v : Value} {xs : List Int} (h : w.ownsRow base 3 1 v xs.length (intsLR xs)) (hb : base ≤ w.heap.size) (hn : xs.length ≤ 1000) (z : Int) (ty : TypeId) :
    ∃ v' w1, (Builtin.append_ #[87, 87] ty #[v, .slice (some ⟨w.heap.size, 0, none⟩) 1 1]).run Tryd.prog (w.alloc (.cells #[.int .i64 z] 3)) = .ok v' w1 ∧ w1.ownsRow base 3 1 v' (xs ++ [z]).length (intsLR (xs ++ [z])) ∧ w.grownBy w1 v.ownBlock := by
  obtain ⟨v', w1, hrun, hown', hgrow, _⟩ := own_lit elem_int h hb (by omega) (by decide) [.int .i64 z] 1 rfl (by decide) (fun u hu => by simp at hu; subst hu; rfl) ty #[.int .i64 z] rfl
  have e : intsLR xs ++ [.int .i64 z] = intsLR (xs ++ [z]) := by simp [intsLR]
  have e2 : xs.length + 1 = (xs ++ [z]).length := by simp
  rw [e, e2] at hown'
  exact ⟨v', w1, hrun, hown', hgrow⟩
theorem below_grownR {B : Nat} {u w w1 : World} {v : Value} {n : Nat} {xs : List Value} {e : TypeId} (hB : Below B u w) (hown : w.ownsRow B e 1 v n xs) (hg : w.grownBy w1 v.ownBlock) (hb : B ≤ w.heap.size) : Below B u w1 :=
  hB.grown hg hb (fun j hj => (hown.lt j hj).1)
theorem hexText_len (z : Int) : (hexText z).length ≤ 4 := by
  unfold hexText
  split
  · simp
  · split
    · simp
    · split <;> simp

set_option maxHeartbeats 4000000 in
set_option maxRecDepth 100000 in
theorem rtext6_all (a0 a1 a2 a3 a4 a5 a6 a7 a8 a9 a10 a11 a12 a13 a14 a15 : Int) (h0 : 0 ≤ a0 ∧ a0 < 256) (h1 : 0 ≤ a1 ∧ a1 < 256) (h2 : 0 ≤ a2 ∧ a2 < 256) (h3 : 0 ≤ a3 ∧ a3 < 256) (h4 : 0 ≤ a4 ∧ a4 < 256) (h5 : 0 ≤ a5 ∧ a5 < 256) (h6 : 0 ≤ a6 ∧ a6 < 256) (h7 : 0 ≤ a7 ∧ a7 < 256) (h8 : 0 ≤ a8 ∧ a8 < 256) (h9 : 0 ≤ a9 ∧ a9 < 256) (h10 : 0 ≤ a10 ∧ a10 < 256) (h11 : 0 ≤ a11 ∧ a11 < 256) (h12 : 0 ≤ a12 ∧ a12 < 256) (h13 : 0 ≤ a13 ∧ a13 < 256) (h14 : 0 ≤ a14 ∧ a14 < 256) (h15 : 0 ≤ a15 ∧ a15 < 256) (w : World) (ht : Tz w) : Calls Tryd.prog 21 #[.agg #[.int .u8 a0, .int .u8 a1, .int .u8 a2, .int .u8 a3, .int .u8 a4, .int .u8 a5, .int .u8 a6, .int .u8 a7, .int .u8 a8, .int .u8 a9, .int .u8 a10, .int .u8 a11, .int .u8 a12, .int .u8 a13, .int .u8 a14, .int .u8 a15]] w fun e w' => e = .returned (strV (own6 [a0 * 256 + a1, a2 * 256 + a3, a4 * 256 + a5, a6 * 256 + a7, a8 * 256 + a9, a10 * 256 + a11, a12 * 256 + a13, a14 * 256 + a15])) ∧ Below w.heap.size w w' := by
  have hb0 := blk_new w (.cells #[.int .u8 a0, .int .u8 a1, .int .u8 a2, .int .u8 a3, .int .u8 a4, .int .u8 a5, .int .u8 a6, .int .u8 a7, .int .u8 a8, .int .u8 a9, .int .u8 a10, .int .u8 a11, .int .u8 a12, .int .u8 a13, .int .u8 a14, .int .u8 a15] 31)
  have hB0 := (Below.refl w.heap.size w).alloc (Nat.le_refl _) (.cells #[.int .u8 a0, .int .u8 a1, .int .u8 a2, .int .u8 a3, .int .u8 a4, .int .u8 a5, .int .u8 a6, .int .u8 a7, .int .u8 a8, .int .u8 a9, .int .u8 a10, .int .u8 a11, .int .u8 a12, .int .u8 a13, .int .u8 a14, .int .u8 a15] 31)
  have hz0 : (w.alloc (.cells #[.int .u8 a0, .int .u8 a1, .int .u8 a2, .int .u8 a3, .int .u8 a4, .int .u8 a5, .int .u8 a6, .int .u8 a7, .int .u8 a8, .int .u8 a9, .int .u8 a10, .int .u8 a11, .int .u8 a12, .int .u8 a13, .int .u8 a14, .int .u8 a15] 31)).heap.size = w.heap.size + 1 := by simp
  have HZ0 : Hid _ := hz0
  clear hz0
  have hG : ∀ x ∈ [a0 * 256 + a1, a2 * 256 + a3, a4 * 256 + a5, a6 * 256 + a7, a8 * 256 + a9, a10 * 256 + a11, a12 * 256 + a13, a14 * 256 + a15], 0 ≤ x ∧ x < 65536 := by
    intro x hx
    simp only [List.mem_cons, List.not_mem_nil, or_false] at hx
    rcases hx with rfl | rfl | rfl | rfl | rfl | rfl | rfl | rfl <;> omega
  obtain ⟨G, hGe⟩ : ∃ G, G = [a0 * 256 + a1, a2 * 256 + a3, a4 * 256 + a5, a6 * 256 + a7, a8 * 256 + a9, a10 * 256 + a11, a12 * 256 + a13, a14 * 256 + a15] := ⟨_, rfl⟩
  have hGl : G.length = 8 := by rw [hGe]; rfl
  rw [← hGe] at hG ⊢
  have hO := own_doc G hG hGl
  generalize own6 G = OW at *
  have HO : Hid _ := hO
  clear hO
  have HGE : Hid _ := hGe
  have HG : Hid _ := hG
  clear hGe hG
  have T0 : Hid (G.take 0 ++ [a0 * 256 + a1] = G.take 1) := by rw [HGE.out]; rfl
  have T1 : Hid (G.take 1 ++ [a2 * 256 + a3] = G.take 2) := by rw [HGE.out]; rfl
  have T2 : Hid (G.take 2 ++ [a4 * 256 + a5] = G.take 3) := by rw [HGE.out]; rfl
  have T3 : Hid (G.take 3 ++ [a6 * 256 + a7] = G.take 4) := by rw [HGE.out]; rfl
  have T4 : Hid (G.take 4 ++ [a8 * 256 + a9] = G.take 5) := by rw [HGE.out]; rfl
  have T5 : Hid (G.take 5 ++ [a10 * 256 + a11] = G.take 6) := by rw [HGE.out]; rfl
  have T6 : Hid (G.take 6 ++ [a12 * 256 + a13] = G.take 7) := by rw [HGE.out]; rfl
  have T7 : Hid (G.take 7 ++ [a14 * 256 + a15] = G.take 8) := by rw [HGE.out]; rfl
  go_enter Tryd.func21, Tryd.ntmps21
  generalize hW0 : w.alloc (.cells #[.int .u8 a0, .int .u8 a1, .int .u8 a2, .int .u8 a3, .int .u8 a4, .int .u8 a5, .int .u8 a6, .int .u8 a7, .int .u8 a8, .int .u8 a9, .int .u8 a10, .int .u8 a11, .int .u8 a12, .int .u8 a13, .int .u8 a14, .int .u8 a15] 31) = W0 at *
  have htw : Tz W0 := ht.on hB0
  have HW0 : Hid _ := hW0
  clear hW0
  go_wp2
  go_loopw [3, 4] (fun v i wr => ∃ k : Nat, k ≤ 8 ∧ i = .int .i64 k ∧ wr.ownsRow W0.heap.size 3 1 v (G.take k).length (intsLR (G.take k)) ∧ Below W0.heap.size W0 wr) (fun _ i _ => 8 - (intOf i).toNat)
  case atStart => exact ⟨0, Nat.zero_le _, rfl, World.ownsRow_nil _ _ _ _, by rw [HW0.out]; exact Below.refl _ _⟩
  case round =>
    obtain ⟨k, hk, rfl, hown, hB⟩ := hrel
    by_cases hlt : k < 8
    · have hszr := hB.size
      have hbx : wr.heap[w.heap.size]? = _ := (hB.block _ (by have := HZ0.out; omega)).trans hb0
      have hkk : k = 0 ∨ k = 1 ∨ k = 2 ∨ k = 3 ∨ k = 4 ∨ k = 5 ∨ k = 6 ∨ k = 7 := by omega
      rcases hkk with rfl | rfl | rfl | rfl | rfl | rfl | rfl | rfl
      · have r1 := blk_cell hbx (j := 0) rfl
        have r2 := blk_cell hbx (j := 1) rfl
        obtain ⟨v', w1, hrun, hown', hgrow⟩ := own_numR (w := wr.drew) (xs := G.take 0) hown hszr (by rw [List.length_take]; omega) (a0 * 256 + a1) 87
        have hB1 : Below W0.heap.size W0 w1 := below_grownR (w := wr.drew) hB.drew hown hgrow hszr
        rw [T0.out] at hown'
        have HR1 : Hid _ := hrun
        have HO1 : Hid (w1.ownsRow W0.heap.size 3 1 v' (G.take 1).length (intsLR (G.take 1))) := hown'
        have HB1 : Hid _ := hB1
        obtain ⟨v0, cap0, hv0, _⟩ := own_form hown
        obtain ⟨v1, cap1, hv1, _⟩ := own_form HO1.out
        have l0 : (G.take 0).length = 0 := by rw [List.length_take]; omega
        have l1 : (G.take 1).length = 1 := by rw [List.length_take]; omega
        rw [l0] at hv0
        rw [l1] at hv1
        have x0 : IntKind.i64.wrap 0 = 0 := by decide
        have x1 : IntKind.i64.wrap 1 = 1 := by decide
        have x2 : IntKind.i64.wrap 2 = 2 := by decide
        have x256 : IntKind.i64.wrap 256 = 256 := by decide
        have y1 : IntKind.i64.wrap a0 = a0 := by unfold IntKind.wrap; simp [IntKind.signed, IntKind.bits]; omega
        have y2 : IntKind.i64.wrap a1 = a1 := by unfold IntKind.wrap; simp [IntKind.signed, IntKind.bits]; omega
        have y3 : IntKind.i64.wrap (a0 * 256) = a0 * 256 := by unfold IntKind.wrap; simp [IntKind.signed, IntKind.bits]; omega
        have y4 : IntKind.i64.wrap (a0 * 256 + a1) = a0 * 256 + a1 := by unfold IntKind.wrap; simp [IntKind.signed, IntKind.bits]; omega
        subst hv0 hv1
        have r3 : ∀ o, (wr.drew.alloc o).cell? ⟨w.heap.size, 0, none⟩ = _ := fun o => (World.cell?_alloc_lt _ _ _ (Array.getElem?_eq_some_iff.1 hbx).1).trans r1
        have r4 : ∀ o, (wr.drew.alloc o).cell? ⟨w.heap.size, 1, none⟩ = _ := fun o => (World.cell?_alloc_lt _ _ _ (Array.getElem?_eq_some_iff.1 hbx).1).trans r2
        clear hrun hown' hown hgrow hbx hb0 hB0 hB1 l0 l1 hGl T0 T1 T2 T3 T4 T5 T6 T7 h2 h3 h4 h5 h6 h7 h8 h9 h10 h11 h12 h13 h14 h15
        go_wp2_with fail
        go_region_law (refine step_append_ex (R := fun v w2 => v = .slice v1 1 cap1 ∧ w2 = w1) rfl _ _ _ _ rfl rfl rfl ⟨_, _, HR1.out, rfl, rfl⟩ ?_; rintro _ _ ⟨rfl, rfl⟩)
        all_goals
          go_wp2
          exact ⟨⟨1, by decide, by simp, HO1.out, HB1.out⟩, by simp [intOf]⟩
      · have r1 := blk_cell hbx (j := 2) rfl
        have r2 := blk_cell hbx (j := 3) rfl
        obtain ⟨v', w1, hrun, hown', hgrow⟩ := own_numR (w := wr.drew) (xs := G.take 1) hown hszr (by rw [List.length_take]; omega) (a2 * 256 + a3) 87
        have hB1 : Below W0.heap.size W0 w1 := below_grownR (w := wr.drew) hB.drew hown hgrow hszr
        rw [T1.out] at hown'
        have HR1 : Hid _ := hrun
        have HO1 : Hid (w1.ownsRow W0.heap.size 3 1 v' (G.take 2).length (intsLR (G.take 2))) := hown'
        have HB1 : Hid _ := hB1
        obtain ⟨v0, cap0, hv0, _⟩ := own_form hown
        obtain ⟨v1, cap1, hv1, _⟩ := own_form HO1.out
        have l0 : (G.take 1).length = 1 := by rw [List.length_take]; omega
        have l1 : (G.take 2).length = 2 := by rw [List.length_take]; omega
        rw [l0] at hv0
        rw [l1] at hv1
        have x0 : IntKind.i64.wrap 0 = 0 := by decide
        have x1 : IntKind.i64.wrap 1 = 1 := by decide
        have x2 : IntKind.i64.wrap 2 = 2 := by decide
        have x3 : IntKind.i64.wrap 3 = 3 := by decide
        have x256 : IntKind.i64.wrap 256 = 256 := by decide
        have y1 : IntKind.i64.wrap a2 = a2 := by unfold IntKind.wrap; simp [IntKind.signed, IntKind.bits]; omega
        have y2 : IntKind.i64.wrap a3 = a3 := by unfold IntKind.wrap; simp [IntKind.signed, IntKind.bits]; omega
        have y3 : IntKind.i64.wrap (a2 * 256) = a2 * 256 := by unfold IntKind.wrap; simp [IntKind.signed, IntKind.bits]; omega
        have y4 : IntKind.i64.wrap (a2 * 256 + a3) = a2 * 256 + a3 := by unfold IntKind.wrap; simp [IntKind.signed, IntKind.bits]; omega
        subst hv0 hv1
        have r3 : ∀ o, (wr.drew.alloc o).cell? ⟨w.heap.size, 2, none⟩ = _ := fun o => (World.cell?_alloc_lt _ _ _ (Array.getElem?_eq_some_iff.1 hbx).1).trans r1
        have r4 : ∀ o, (wr.drew.alloc o).cell? ⟨w.heap.size, 3, none⟩ = _ := fun o => (World.cell?_alloc_lt _ _ _ (Array.getElem?_eq_some_iff.1 hbx).1).trans r2
        clear hrun hown' hown hgrow hbx hb0 hB0 hB1 l0 l1 hGl T0 T1 T2 T3 T4 T5 T6 T7 h0 h1 h4 h5 h6 h7 h8 h9 h10 h11 h12 h13 h14 h15
        go_wp2_with fail
        go_region_law (refine step_append_ex (R := fun v w2 => v = .slice v1 2 cap1 ∧ w2 = w1) rfl _ _ _ _ rfl rfl rfl ⟨_, _, HR1.out, rfl, rfl⟩ ?_; rintro _ _ ⟨rfl, rfl⟩)
        all_goals
          go_wp2
          exact ⟨⟨2, by decide, by simp, HO1.out, HB1.out⟩, by simp [intOf]⟩
      · have r1 := blk_cell hbx (j := 4) rfl
        have r2 := blk_cell hbx (j := 5) rfl
        obtain ⟨v', w1, hrun, hown', hgrow⟩ := own_numR (w := wr.drew) (xs := G.take 2) hown hszr (by rw [List.length_take]; omega) (a4 * 256 + a5) 87
        have hB1 : Below W0.heap.size W0 w1 := below_grownR (w := wr.drew) hB.drew hown hgrow hszr
        rw [T2.out] at hown'
        have HR1 : Hid _ := hrun
        have HO1 : Hid (w1.ownsRow W0.heap.size 3 1 v' (G.take 3).length (intsLR (G.take 3))) := hown'
        have HB1 : Hid _ := hB1
        obtain ⟨v0, cap0, hv0, _⟩ := own_form hown
        obtain ⟨v1, cap1, hv1, _⟩ := own_form HO1.out
        have l0 : (G.take 2).length = 2 := by rw [List.length_take]; omega
        have l1 : (G.take 3).length = 3 := by rw [List.length_take]; omega
        rw [l0] at hv0
        rw [l1] at hv1
        have x0 : IntKind.i64.wrap 0 = 0 := by decide
        have x1 : IntKind.i64.wrap 1 = 1 := by decide
        have x2 : IntKind.i64.wrap 2 = 2 := by decide
        have x4 : IntKind.i64.wrap 4 = 4 := by decide
        have x5 : IntKind.i64.wrap 5 = 5 := by decide
        have x256 : IntKind.i64.wrap 256 = 256 := by decide
        have y1 : IntKind.i64.wrap a4 = a4 := by unfold IntKind.wrap; simp [IntKind.signed, IntKind.bits]; omega
        have y2 : IntKind.i64.wrap a5 = a5 := by unfold IntKind.wrap; simp [IntKind.signed, IntKind.bits]; omega
        have y3 : IntKind.i64.wrap (a4 * 256) = a4 * 256 := by unfold IntKind.wrap; simp [IntKind.signed, IntKind.bits]; omega
        have y4 : IntKind.i64.wrap (a4 * 256 + a5) = a4 * 256 + a5 := by unfold IntKind.wrap; simp [IntKind.signed, IntKind.bits]; omega
        subst hv0 hv1
        have r3 : ∀ o, (wr.drew.alloc o).cell? ⟨w.heap.size, 4, none⟩ = _ := fun o => (World.cell?_alloc_lt _ _ _ (Array.getElem?_eq_some_iff.1 hbx).1).trans r1
        have r4 : ∀ o, (wr.drew.alloc o).cell? ⟨w.heap.size, 5, none⟩ = _ := fun o => (World.cell?_alloc_lt _ _ _ (Array.getElem?_eq_some_iff.1 hbx).1).trans r2
        clear hrun hown' hown hgrow hbx hb0 hB0 hB1 l0 l1 hGl T0 T1 T2 T3 T4 T5 T6 T7 h0 h1 h2 h3 h6 h7 h8 h9 h10 h11 h12 h13 h14 h15
        go_wp2_with fail
        go_region_law (refine step_append_ex (R := fun v w2 => v = .slice v1 3 cap1 ∧ w2 = w1) rfl _ _ _ _ rfl rfl rfl ⟨_, _, HR1.out, rfl, rfl⟩ ?_; rintro _ _ ⟨rfl, rfl⟩)
        all_goals
          go_wp2
          exact ⟨⟨3, by decide, by simp, HO1.out, HB1.out⟩, by simp [intOf]⟩
      · have r1 := blk_cell hbx (j := 6) rfl
        have r2 := blk_cell hbx (j := 7) rfl
        obtain ⟨v', w1, hrun, hown', hgrow⟩ := own_numR (w := wr.drew) (xs := G.take 3) hown hszr (by rw [List.length_take]; omega) (a6 * 256 + a7) 87
        have hB1 : Below W0.heap.size W0 w1 := below_grownR (w := wr.drew) hB.drew hown hgrow hszr
        rw [T3.out] at hown'
        have HR1 : Hid _ := hrun
        have HO1 : Hid (w1.ownsRow W0.heap.size 3 1 v' (G.take 4).length (intsLR (G.take 4))) := hown'
        have HB1 : Hid _ := hB1
        obtain ⟨v0, cap0, hv0, _⟩ := own_form hown
        obtain ⟨v1, cap1, hv1, _⟩ := own_form HO1.out
        have l0 : (G.take 3).length = 3 := by rw [List.length_take]; omega
        have l1 : (G.take 4).length = 4 := by rw [List.length_take]; omega
        rw [l0] at hv0
        rw [l1] at hv1
        have x0 : IntKind.i64.wrap 0 = 0 := by decide
        have x1 : IntKind.i64.wrap 1 = 1 := by decide
        have x2 : IntKind.i64.wrap 2 = 2 := by decide
        have x3 : IntKind.i64.wrap 3 = 3 := by decide
        have x6 : IntKind.i64.wrap 6 = 6 := by decide
        have x7 : IntKind.i64.wrap 7 = 7 := by decide
        have x256 : IntKind.i64.wrap 256 = 256 := by decide
        have y1 : IntKind.i64.wrap a6 = a6 := by unfold IntKind.wrap; simp [IntKind.signed, IntKind.bits]; omega
        have y2 : IntKind.i64.wrap a7 = a7 := by unfold IntKind.wrap; simp [IntKind.signed, IntKind.bits]; omega
        have y3 : IntKind.i64.wrap (a6 * 256) = a6 * 256 := by unfold IntKind.wrap; simp [IntKind.signed, IntKind.bits]; omega
        have y4 : IntKind.i64.wrap (a6 * 256 + a7) = a6 * 256 + a7 := by unfold IntKind.wrap; simp [IntKind.signed, IntKind.bits]; omega
        subst hv0 hv1
        have r3 : ∀ o, (wr.drew.alloc o).cell? ⟨w.heap.size, 6, none⟩ = _ := fun o => (World.cell?_alloc_lt _ _ _ (Array.getElem?_eq_some_iff.1 hbx).1).trans r1
        have r4 : ∀ o, (wr.drew.alloc o).cell? ⟨w.heap.size, 7, none⟩ = _ := fun o => (World.cell?_alloc_lt _ _ _ (Array.getElem?_eq_some_iff.1 hbx).1).trans r2
        clear hrun hown' hown hgrow hbx hb0 hB0 hB1 l0 l1 hGl T0 T1 T2 T3 T4 T5 T6 T7 h0 h1 h2 h3 h4 h5 h8 h9 h10 h11 h12 h13 h14 h15
        go_wp2_with fail
        go_region_law (refine step_append_ex (R := fun v w2 => v = .slice v1 4 cap1 ∧ w2 = w1) rfl _ _ _ _ rfl rfl rfl ⟨_, _, HR1.out, rfl, rfl⟩ ?_; rintro _ _ ⟨rfl, rfl⟩)
        all_goals
          go_wp2
          exact ⟨⟨4, by decide, by simp, HO1.out, HB1.out⟩, by simp [intOf]⟩
      · have r1 := blk_cell hbx (j := 8) rfl
        have r2 := blk_cell hbx (j := 9) rfl
        obtain ⟨v', w1, hrun, hown', hgrow⟩ := own_numR (w := wr.drew) (xs := G.take 4) hown hszr (by rw [List.length_take]; omega) (a8 * 256 + a9) 87
        have hB1 : Below W0.heap.size W0 w1 := below_grownR (w := wr.drew) hB.drew hown hgrow hszr
        rw [T4.out] at hown'
        have HR1 : Hid _ := hrun
        have HO1 : Hid (w1.ownsRow W0.heap.size 3 1 v' (G.take 5).length (intsLR (G.take 5))) := hown'
        have HB1 : Hid _ := hB1
        obtain ⟨v0, cap0, hv0, _⟩ := own_form hown
        obtain ⟨v1, cap1, hv1, _⟩ := own_form HO1.out
        have l0 : (G.take 4).length = 4 := by rw [List.length_take]; omega
        have l1 : (G.take 5).length = 5 := by rw [List.length_take]; omega
        rw [l0] at hv0
        rw [l1] at hv1
        have x0 : IntKind.i64.wrap 0 = 0 := by decide
        have x1 : IntKind.i64.wrap 1 = 1 := by decide
        have x2 : IntKind.i64.wrap 2 = 2 := by decide
        have x4 : IntKind.i64.wrap 4 = 4 := by decide
        have x8 : IntKind.i64.wrap 8 = 8 := by decide
        have x9 : IntKind.i64.wrap 9 = 9 := by decide
        have x256 : IntKind.i64.wrap 256 = 256 := by decide
        have y1 : IntKind.i64.wrap a8 = a8 := by unfold IntKind.wrap; simp [IntKind.signed, IntKind.bits]; omega
        have y2 : IntKind.i64.wrap a9 = a9 := by unfold IntKind.wrap; simp [IntKind.signed, IntKind.bits]; omega
        have y3 : IntKind.i64.wrap (a8 * 256) = a8 * 256 := by unfold IntKind.wrap; simp [IntKind.signed, IntKind.bits]; omega
        have y4 : IntKind.i64.wrap (a8 * 256 + a9) = a8 * 256 + a9 := by unfold IntKind.wrap; simp [IntKind.signed, IntKind.bits]; omega
        subst hv0 hv1
        have r3 : ∀ o, (wr.drew.alloc o).cell? ⟨w.heap.size, 8, none⟩ = _ := fun o => (World.cell?_alloc_lt _ _ _ (Array.getElem?_eq_some_iff.1 hbx).1).trans r1
        have r4 : ∀ o, (wr.drew.alloc o).cell? ⟨w.heap.size, 9, none⟩ = _ := fun o => (World.cell?_alloc_lt _ _ _ (Array.getElem?_eq_some_iff.1 hbx).1).trans r2
        clear hrun hown' hown hgrow hbx hb0 hB0 hB1 l0 l1 hGl T0 T1 T2 T3 T4 T5 T6 T7 h0 h1 h2 h3 h4 h5 h6 h7 h10 h11 h12 h13 h14 h15
        go_wp2_with fail
        go_region_law (refine step_append_ex (R := fun v w2 => v = .slice v1 5 cap1 ∧ w2 = w1) rfl _ _ _ _ rfl rfl rfl ⟨_, _, HR1.out, rfl, rfl⟩ ?_; rintro _ _ ⟨rfl, rfl⟩)
        all_goals
          go_wp2
          exact ⟨⟨5, by decide, by simp, HO1.out, HB1.out⟩, by simp [intOf]⟩
      · have r1 := blk_cell hbx (j := 10) rfl
        have r2 := blk_cell hbx (j := 11) rfl
        obtain ⟨v', w1, hrun, hown', hgrow⟩ := own_numR (w := wr.drew) (xs := G.take 5) hown hszr (by rw [List.length_take]; omega) (a10 * 256 + a11) 87
        have hB1 : Below W0.heap.size W0 w1 := below_grownR (w := wr.drew) hB.drew hown hgrow hszr
        rw [T5.out] at hown'
        have HR1 : Hid _ := hrun
        have HO1 : Hid (w1.ownsRow W0.heap.size 3 1 v' (G.take 6).length (intsLR (G.take 6))) := hown'
        have HB1 : Hid _ := hB1
        obtain ⟨v0, cap0, hv0, _⟩ := own_form hown
        obtain ⟨v1, cap1, hv1, _⟩ := own_form HO1.out
        have l0 : (G.take 5).length = 5 := by rw [List.length_take]; omega
        have l1 : (G.take 6).length = 6 := by rw [List.length_take]; omega
        rw [l0] at hv0
        rw [l1] at hv1
        have x0 : IntKind.i64.wrap 0 = 0 := by decide
        have x1 : IntKind.i64.wrap 1 = 1 := by decide
        have x2 : IntKind.i64.wrap 2 = 2 := by decide
        have x5 : IntKind.i64.wrap 5 = 5 := by decide
        have x10 : IntKind.i64.wrap 10 = 10 := by decide
        have x11 : IntKind.i64.wrap 11 = 11 := by decide
        have x256 : IntKind.i64.wrap 256 = 256 := by decide
        have y1 : IntKind.i64.wrap a10 = a10 := by unfold IntKind.wrap; simp [IntKind.signed, IntKind.bits]; omega
        have y2 : IntKind.i64.wrap a11 = a11 := by unfold IntKind.wrap; simp [IntKind.signed, IntKind.bits]; omega
        have y3 : IntKind.i64.wrap (a10 * 256) = a10 * 256 := by unfold IntKind.wrap; simp [IntKind.signed, IntKind.bits]; omega
        have y4 : IntKind.i64.wrap (a10 * 256 + a11) = a10 * 256 + a11 := by unfold IntKind.wrap; simp [IntKind.signed, IntKind.bits]; omega
        subst hv0 hv1
        have r3 : ∀ o, (wr.drew.alloc o).cell? ⟨w.heap.size, 10, none⟩ = _ := fun o => (World.cell?_alloc_lt _ _ _ (Array.getElem?_eq_some_iff.1 hbx).1).trans r1
        have r4 : ∀ o, (wr.drew.alloc o).cell? ⟨w.heap.size, 11, none⟩ = _ := fun o => (World.cell?_alloc_lt _ _ _ (Array.getElem?_eq_some_iff.1 hbx).1).trans r2
        clear hrun hown' hown hgrow hbx hb0 hB0 hB1 l0 l1 hGl T0 T1 T2 T3 T4 T5 T6 T7 h0 h1 h2 h3 h4 h5 h6 h7 h8 h9 h12 h13 h14 h15
        go_wp2_with fail
        go_region_law (refine step_append_ex (R := fun v w2 => v = .slice v1 6 cap1 ∧ w2 = w1) rfl _ _ _ _ rfl rfl rfl ⟨_, _, HR1.out, rfl, rfl⟩ ?_; rintro _ _ ⟨rfl, rfl⟩)
        all_goals
          go_wp2
          exact ⟨⟨6, by decide, by simp, HO1.out, HB1.out⟩, by simp [intOf]⟩
      · have r1 := blk_cell hbx (j := 12) rfl
        have r2 := blk_cell hbx (j := 13) rfl
        obtain ⟨v', w1, hrun, hown', hgrow⟩ := own_numR (w := wr.drew) (xs := G.take 6) hown hszr (by rw [List.length_take]; omega) (a12 * 256 + a13) 87
        have hB1 : Below W0.heap.size W0 w1 := below_grownR (w := wr.drew) hB.drew hown hgrow hszr
        rw [T6.out] at hown'
        have HR1 : Hid _ := hrun
        have HO1 : Hid (w1.ownsRow W0.heap.size 3 1 v' (G.take 7).length (intsLR (G.take 7))) := hown'
        have HB1 : Hid _ := hB1
        obtain ⟨v0, cap0, hv0, _⟩ := own_form hown
        obtain ⟨v1, cap1, hv1, _⟩ := own_form HO1.out
        have l0 : (G.take 6).length = 6 := by rw [List.length_take]; omega
        have l1 : (G.take 7).length = 7 := by rw [List.length_take]; omega
        rw [l0] at hv0
        rw [l1] at hv1
        have x0 : IntKind.i64.wrap 0 = 0 := by decide
        have x1 : IntKind.i64.wrap 1 = 1 := by decide
        have x2 : IntKind.i64.wrap 2 = 2 := by decide
        have x6 : IntKind.i64.wrap 6 = 6 := by decide
        have x12 : IntKind.i64.wrap 12 = 12 := by decide
        have x13 : IntKind.i64.wrap 13 = 13 := by decide
        have x256 : IntKind.i64.wrap 256 = 256 := by decide
        have y1 : IntKind.i64.wrap a12 = a12 := by unfold IntKind.wrap; simp [IntKind.signed, IntKind.bits]; omega
        have y2 : IntKind.i64.wrap a13 = a13 := by unfold IntKind.wrap; simp [IntKind.signed, IntKind.bits]; omega
        have y3 : IntKind.i64.wrap (a12 * 256) = a12 * 256 := by unfold IntKind.wrap; simp [IntKind.signed, IntKind.bits]; omega
        have y4 : IntKind.i64.wrap (a12 * 256 + a13) = a12 * 256 + a13 := by unfold IntKind.wrap; simp [IntKind.signed, IntKind.bits]; omega
        subst hv0 hv1
        have r3 : ∀ o, (wr.drew.alloc o).cell? ⟨w.heap.size, 12, none⟩ = _ := fun o => (World.cell?_alloc_lt _ _ _ (Array.getElem?_eq_some_iff.1 hbx).1).trans r1
        have r4 : ∀ o, (wr.drew.alloc o).cell? ⟨w.heap.size, 13, none⟩ = _ := fun o => (World.cell?_alloc_lt _ _ _ (Array.getElem?_eq_some_iff.1 hbx).1).trans r2
        clear hrun hown' hown hgrow hbx hb0 hB0 hB1 l0 l1 hGl T0 T1 T2 T3 T4 T5 T6 T7 h0 h1 h2 h3 h4 h5 h6 h7 h8 h9 h10 h11 h14 h15
        go_wp2_with fail
        go_region_law (refine step_append_ex (R := fun v w2 => v = .slice v1 7 cap1 ∧ w2 = w1) rfl _ _ _ _ rfl rfl rfl ⟨_, _, HR1.out, rfl, rfl⟩ ?_; rintro _ _ ⟨rfl, rfl⟩)
        all_goals
          go_wp2
          exact ⟨⟨7, by decide, by simp, HO1.out, HB1.out⟩, by simp [intOf]⟩
      · have r1 := blk_cell hbx (j := 14) rfl
        have r2 := blk_cell hbx (j := 15) rfl
        obtain ⟨v', w1, hrun, hown', hgrow⟩ := own_numR (w := wr.drew) (xs := G.take 7) hown hszr (by rw [List.length_take]; omega) (a14 * 256 + a15) 87
        have hB1 : Below W0.heap.size W0 w1 := below_grownR (w := wr.drew) hB.drew hown hgrow hszr
        rw [T7.out] at hown'
        have HR1 : Hid _ := hrun
        have HO1 : Hid (w1.ownsRow W0.heap.size 3 1 v' (G.take 8).length (intsLR (G.take 8))) := hown'
        have HB1 : Hid _ := hB1
        obtain ⟨v0, cap0, hv0, _⟩ := own_form hown
        obtain ⟨v1, cap1, hv1, _⟩ := own_form HO1.out
        have l0 : (G.take 7).length = 7 := by rw [List.length_take]; omega
        have l1 : (G.take 8).length = 8 := by rw [List.length_take]; omega
        rw [l0] at hv0
        rw [l1] at hv1
        have x0 : IntKind.i64.wrap 0 = 0 := by decide
        have x1 : IntKind.i64.wrap 1 = 1 := by decide
        have x2 : IntKind.i64.wrap 2 = 2 := by decide
        have x7 : IntKind.i64.wrap 7 = 7 := by decide
        have x14 : IntKind.i64.wrap 14 = 14 := by decide
        have x15 : IntKind.i64.wrap 15 = 15 := by decide
        have x256 : IntKind.i64.wrap 256 = 256 := by decide
        have y1 : IntKind.i64.wrap a14 = a14 := by unfold IntKind.wrap; simp [IntKind.signed, IntKind.bits]; omega
        have y2 : IntKind.i64.wrap a15 = a15 := by unfold IntKind.wrap; simp [IntKind.signed, IntKind.bits]; omega
        have y3 : IntKind.i64.wrap (a14 * 256) = a14 * 256 := by unfold IntKind.wrap; simp [IntKind.signed, IntKind.bits]; omega
        have y4 : IntKind.i64.wrap (a14 * 256 + a15) = a14 * 256 + a15 := by unfold IntKind.wrap; simp [IntKind.signed, IntKind.bits]; omega
        subst hv0 hv1
        have r3 : ∀ o, (wr.drew.alloc o).cell? ⟨w.heap.size, 14, none⟩ = _ := fun o => (World.cell?_alloc_lt _ _ _ (Array.getElem?_eq_some_iff.1 hbx).1).trans r1
        have r4 : ∀ o, (wr.drew.alloc o).cell? ⟨w.heap.size, 15, none⟩ = _ := fun o => (World.cell?_alloc_lt _ _ _ (Array.getElem?_eq_some_iff.1 hbx).1).trans r2
        clear hrun hown' hown hgrow hbx hb0 hB0 hB1 l0 l1 hGl T0 T1 T2 T3 T4 T5 T6 T7 h0 h1 h2 h3 h4 h5 h6 h7 h8 h9 h10 h11 h12 h13
        go_wp2_with fail
        go_region_law (refine step_append_ex (R := fun v w2 => v = .slice v1 8 cap1 ∧ w2 = w1) rfl _ _ _ _ rfl rfl rfl ⟨_, _, HR1.out, rfl, rfl⟩ ?_; rintro _ _ ⟨rfl, rfl⟩)
        all_goals
          go_wp2
          exact ⟨⟨8, by decide, by simp, HO1.out, HB1.out⟩, by simp [intOf]⟩
    · obtain rfl : k = 8 := by omega
      have e8 : G.take 8 = G := List.take_of_length_le (by omega)
      rw [e8, hGl] at hown
      obtain ⟨a, cap, rfl, _, hz⟩ := own_form hown
      rcases hz with hz | ⟨g, rfl, _, hg, hc⟩
      · exact absurd hz (by decide)
      have hBw : Below w.heap.size w wr := hB0.trans (hB.mono (by have := HZ0.out; omega))
      have htr : Tz wr := ht.on hBw
      have hcz : ∀ y : Hi wr, ∀ (j : Nat) z, G[j]? = some z → y.W.cell? ⟨g, j, none⟩ = some (.int .i64 z) := fun y j z hj => (y.below.cell (p := ⟨g, j, none⟩) hg).trans (hc j _ (by rw [intsLR, List.getElem?_map, hj]; rfl))
      have hze : ∀ (fr : Nat), fr ≤ 8 → Calls Tryd.prog 62 #[.slice (some ⟨g, 0, none⟩) 8 cap, .int .i64 fr] wr fun e w' => e = .returned (.int .i64 (zerB ((zb G).drop fr) : Nat)) ∧ w' = wr := fun fr hf => by
        have h := zeros_ref g cap G fr wr (by omega) (by omega) HG.out (hcz (Hi.refl _))
        rw [hGl] at h
        have e : zerC (G.drop fr) = zerB ((zb G).drop fr) := by simp [zerC, zb, List.map_drop]
        rw [e] at h
        exact h
      have HZE : Hid _ := hze
      have HCZ : Hid _ := hcz
      have HTR : Hid _ := htr
      have hzl : (zb G).length = 8 := by simp [zb, hGl]
      clear hown hc hcz hze htr e8 hb0 hB0 ht htw hk hlt hB T0 T1 T2 T3 T4 T5 T6 T7 h0 h1 h2 h3 h4 h5 h6 h7 h8 h9 h10 h11 h12 h13 h14 h15
      rw [show ((8 : Nat) : Int) = 8 from rfl]
      go_wp2
      go_loopw [5, 6, 7] (fun at_ most i wq => ∃ k : Nat, k ≤ 8 ∧ i = .int .i64 k ∧ at_ = .int .i64 (bestK (zb G) k).1 ∧ most = .int .i64 ((bestK (zb G) k).2 : Nat) ∧ wq = wr) (fun _ _ i _ => 8 - (intOf i).toNat)
      case atStart => exact ⟨0, Nat.zero_le _, rfl, rfl, rfl, rfl⟩
      case round =>
        obtain ⟨k, hk, rfl, rfl, rfl, rfl⟩ := hrel
        obtain ⟨i1, i2, i3, i4⟩ := bestK_ok (zb G) hzl k hk
        by_cases hlt : k < 8
        · have hs : bestK (zb G) (k + 1) = if (bestK (zb G) k).2 < zerB ((zb G).drop k) then ((k : Int), zerB ((zb G).drop k)) else bestK (zb G) k := rfl
          have HZK : Hid _ := HZE.out k (by omega)
          have hzz := zerB_le ((zb G).drop k)
          rw [List.length_drop, hzl] at hzz
          generalize zerB ((zb G).drop k) = zz at *
          have HS : Hid _ := hs
          clear hs
          generalize bestK (zb G) k = bk at *
          obtain ⟨bat, bm⟩ := bk
          simp only at i1 i2 i3 i4 HS ⊢
          by_cases hc : bm < zz
          · have hi : (bm : Int) < (zz : Int) := by omega
            have HS2 : Hid _ := HS.out.trans (if_pos hc)
            clear HS hc
            go_wp2_with fail
            refine Calls.mono HZK.out ?_
            rintro e w' ⟨rfl, rfl⟩
            go_wp2_with fail
            refine Calls.mono HZK.out ?_
            rintro e w' ⟨rfl, rfl⟩
            go_wp2
            exact ⟨⟨k + 1, by omega, by simp, by rw [HS2.out], by rw [HS2.out], trivial⟩, by simp [intOf]; omega⟩
          · have hi : ¬ (bm : Int) < (zz : Int) := by omega
            have HS2 : Hid _ := HS.out.trans (if_neg hc)
            clear HS hc
            go_wp2_with fail
            refine Calls.mono HZK.out ?_
            rintro e w' ⟨rfl, rfl⟩
            go_wp2
            exact ⟨⟨k + 1, by omega, by simp, by rw [HS2.out], by rw [HS2.out], trivial⟩, by simp [intOf]; omega⟩
        · obtain rfl : k = 8 := by omega
          clear HZE
          rw [show ((8 : Nat) : Int) = 8 from rfl]
          generalize bestK (zb G) 8 = bk at *
          obtain ⟨bat, bm⟩ := bk
          simp only at i1 i2 i3 i4 HO ⊢
          go_wp2
          go_loopw [8, 9] (fun sv i wq => ∃ (n k : Nat) (s : List UInt8), k ≤ 16 ∧ 8 ≤ k + n ∧ i = .int .i64 k ∧ sv = strV s ∧ s.length ≤ 10 * k ∧ docR G bat bm n k s = OW ∧ Below wr.heap.size wr wq) (fun _ i _ => 8 - (intOf i).toNat)
          case atStart => exact ⟨8, 0, [], by omega, by omega, rfl, rfl, by simp, HO.out, Below.refl _ _⟩
          case round =>
            obtain ⟨n, k, s, hk, hn, rfl, rfl, hsl, hdoc, hBq⟩ := hrel
            have HBQ : Hid _ := hBq
            by_cases hlt : k < 8
            · obtain ⟨n, rfl⟩ : ∃ m, n = m + 1 := ⟨n - 1, by omega⟩
              rw [docR, if_neg (by omega)] at hdoc
              by_cases hka : (k : Int) = bat
              · rw [if_pos hka] at hdoc
                have HD : Hid _ := hdoc
                subst hka
                clear hdoc hBq HCZ
                have l2 : ([58, 58] : List UInt8).length = 2 := rfl
                go_wp2
                exact ⟨⟨n, k + bm, s ++ [58, 58], by omega, by omega, by congr 1, congrArg Value.string (str_app s [58, 58]), by rw [List.length_append, l2]; omega, HD.out, HBQ.out⟩, by simp [intOf]; omega⟩
              · rw [if_neg hka] at hdoc
                have q1 : ((k : Int) == bat) = false := beq_eq_false_iff_ne.2 hka
                have hx : G[k]? = some (G[k]'(by omega)) := by simp
                have r1 := HCZ.out ⟨_, hBq⟩ k _ hx
                simp only at r1
                have hr := HG.out _ (List.mem_of_getElem? hx)
                rw [hx, Option.getD_some] at hdoc
                generalize G[k]'(by omega) = z at *
                have HF : Hid _ := formatInt16 z hr _ (Tz.on HTR.out hBq)
                have hhl := hexText_len z
                generalize hexText z = hx2 at *
                clear hBq HCZ hka hx
                by_cases hs0 : s = []
                · have hse : sep s = [] := by rw [hs0]; rfl
                  rw [hse, List.nil_append] at hdoc
                  have HD : Hid _ := hdoc
                  subst hs0
                  clear hdoc hse
                  go_wp2_with fail
                  refine Calls.mono HF.out ?_
                  rintro e w' ⟨rfl, hBf⟩
                  go_wp2
                  exact ⟨⟨n, k + 1, hx2, by omega, by omega, by simp, congrArg Value.string (str_app [] hx2), by omega, HD.out, HBQ.out.trans (hBf.mono HBQ.out.size)⟩, by simp [intOf]; omega⟩
                · have hb : s.length - 1 < (⟨s.toArray⟩ : ByteArray).size := by
                    have : s.length ≠ 0 := by simpa using hs0
                    show s.length - 1 < s.toArray.size
                    simp
                    omega
                  have hb2 : 0 < s.length := by
                    have : s.length ≠ 0 := by simpa using hs0
                    omega
                  have h1 : s.isEmpty = false := by simpa using hs0
                  have hgl : some ((⟨s.toArray⟩ : ByteArray)[s.length - 1]'hb) = s.getLast? := by
                    rw [List.getLast?_eq_getElem?, List.getElem?_eq_getElem (by omega)]
                    rfl
                  by_cases h58 : s.getLast? = some 58
                  · have hse : sep s = s := by unfold sep; rw [if_neg hs0, if_pos h58]
                    have h3 : (⟨s.toArray⟩ : ByteArray)[s.length - 1]'hb = 58 := Option.some.inj (hgl.trans h58)
                    rw [hse] at hdoc
                    have HD : Hid _ := hdoc
                    clear hdoc hse hgl h58 hs0
                    go_wp2_with fail
                    refine Calls.mono HF.out ?_
                    rintro e w' ⟨rfl, hBf⟩
                    go_wp2
                    exact ⟨⟨n, k + 1, s ++ hx2, by omega, by omega, by simp, congrArg Value.string (str_app s hx2), by rw [List.length_append]; omega, HD.out, HBQ.out.trans (hBf.mono HBQ.out.size)⟩, by simp [intOf]; omega⟩
                  · have hse : sep s = s ++ [58] := by unfold sep; rw [if_neg hs0, if_neg h58]
                    obtain ⟨c, h3⟩ : ∃ c, (⟨s.toArray⟩ : ByteArray)[s.length - 1]'hb = c := ⟨_, rfl⟩
                    have hc : c ≠ 58 := fun e => h58 (by rw [← hgl, h3, e])
                    have h4 : ((c.toNat : Int) != 58) = true := by
                      rw [bne_iff_ne]
                      intro e
                      exact hc (UInt8.toNat_inj.1 (by show c.toNat = 58; omega))
                    rw [hse] at hdoc
                    have HD : Hid _ := hdoc
                    clear hdoc hse hgl h58 hs0 hc
                    go_wp2_with fail
                    refine Calls.mono HF.out ?_
                    rintro e w' ⟨rfl, hBf⟩
                    go_wp2
                    exact ⟨⟨n, k + 1, s ++ [58] ++ hx2, by omega, by omega, by simp, congrArg Value.string ((congrArg (· ++ (⟨hx2.toArray⟩ : ByteArray)) (str_app s [58])).trans (str_app (s ++ [58]) hx2)), by rw [List.length_append, List.length_append, List.length_singleton]; omega, HD.out, HBQ.out.trans (hBf.mono HBQ.out.size)⟩, by simp [intOf]; omega⟩
            · rw [docR_end _ _ _ _ _ _ (by omega)] at hdoc
              subst hdoc
              go_wp2
              go_ret
              exact ⟨rfl, hBw.trans (HBQ.out.mono hBw.size)⟩

end Go.Proofs.YtlpbffcijhgelaaDoor
