/-
  The statement PathmtuNobody.
  Settings that may not be; Len; an MTU that may not be; one path's cache.
-/
import Derived.Test.YtgndiblonhgihaaFold22
namespace Go.Proofs.Ytgndiblonhgihaa
open Go Go.RowKit Go.Lib
set_option linter.unusedVariables false
set_option linter.unusedSimpArgs false

set_option maxHeartbeats 8000000 in
set_option maxRecDepth 100000 in
theorem pathmtuNobody_walk {W : World} {d : List Int} (hd : K16 d) :
    Calls Try.prog 6 #[.agg (u8s d).toArray] W fun e w' => e = .returned (.bool true) ∧ Below W.heap.size W w' := by
  obtain ⟨n, hn⟩ : ∃ n, W.heap.size = n := ⟨_, rfl⟩
  obtain ⟨W1, hW1⟩ : ∃ W1, W1 = W.alloc (.cells (u8s d).toArray 35) := ⟨_, rfl⟩
  have hB1 : Below n W W1 := by rw [hW1, ← hn]; exact (Below.refl W.heap.size W).alloc (Nat.le_refl _) _
  have hx1 : W1.heap[n]? = some (.cells (u8s d).toArray 35) := by rw [hW1, ← hn]; exact blk_new W _
  have hs1 : W1.heap.size = n + 1 := by rw [hW1, ← hn]; simp
  obtain ⟨W2, hW2⟩ : ∃ W2, W2 = W1.alloc (.cells #[.pointer none] 52) := ⟨_, rfl⟩
  have hB2 : Below W1.heap.size W1 W2 := by rw [hW2]; exact (Below.refl W1.heap.size W1).alloc (Nat.le_refl _) _
  have hz2 : W2.heap[n + 1]? = some (.cells [Value.pointer none].toArray 52) := by rw [hW2, ← hs1]; exact blk_new W1 _
  have hs2 : W2.heap.size = n + 2 := by rw [hW2]; simp [hs1]
  obtain ⟨W3, hW3⟩ : ∃ W3, W3 = W2.alloc (.cells #[.pointer none, .pointer (some ⟨n + 1, 0, none⟩)] 25) := ⟨_, rfl⟩
  have hB3 : Below W2.heap.size W2 W3 := by rw [hW3]; exact (Below.refl W2.heap.size W2).alloc (Nat.le_refl _) _
  have hp3 : W3.heap[n + 2]? = some (.cells [Value.pointer none, .pointer (some ⟨n + 1, 0, none⟩)].toArray 25) := by rw [hW3, ← hs2]; exact blk_new W2 _
  have hx3 : W3.heap[n]? = some (.cells (u8s d).toArray 35) := blk_on (blk_on hx1 hB2) hB3
  have HZ3 : Hid (W3.heap[n + 1]? = some (.cells [Value.pointer none].toArray 52)) := blk_on hz2 hB3
  have HP3 : Hid (W3.heap[n + 2]? = some (.cells [Value.pointer none, .pointer (some ⟨n + 1, 0, none⟩)].toArray 25)) := hp3
  have HB3 : Hid (Below n W W3) := (hB1.trans (hB2.mono (by omega))).trans (hB3.mono (by omega))
  have HN : Hid (W.heap.size = n) := hn
  have HS1 : Hid (W1.heap.size = n + 1) := hs1
  have HS2 : Hid (W2.heap.size = n + 2) := hs2
  have HLD : Hid (∀ X : World, Below W3.heap.size W3 X → (Instr.loadAt 35 (.pointer (some ⟨n, 0, none⟩))).run Try.prog X = .ok (.agg (u8s d).toArray) X) := fun X hX => at_A hd.len (blk_on hx3 hX)
  have e1 := hW1.symm
  have e2 := hW2.symm
  have e3 := hW3.symm
  clear hB1 hx1 hW1 hB2 hz2 hW2 hB3 hp3 hx3 hW3 hd
  go_enter Try.func6, Try.ntmps6
  go_wp2_with fail
  clear hn hs1 hs2 e1 e2 e3
  go_loopw [21] (fun i wr => ∃ k : Nat, k ≤ 2 ∧ i = .int .i64 k ∧ Hid (Below W3.heap.size W3 wr)) (fun i _ => 2 - (intOf i).toNat)
  case atStart => exact ⟨0, by omega, rfl, Below.refl _ _⟩
  case round =>
    obtain ⟨k, hk, rfl, hbr⟩ := hrel
    by_cases hlt : k < 2
    · obtain ⟨p, hcell, hnob⟩ : ∃ p, wr.cell? ⟨n + 2, k, none⟩ = some (.pointer p) ∧ NobC (.pointer p) wr := by
        have hp := blk_on HP3.out hbr.out
        have hz := blk_on HZ3.out hbr.out
        rcases (by omega : k = 0 ∨ k = 1) with rfl | rfl
        · exact ⟨none, blk_cell hp rfl, nob_nil wr⟩
        · exact ⟨some ⟨n + 1, 0, none⟩, blk_cell hp rfl, nob_zero hz⟩
      have HN0 : Hid (NobC (.pointer p) wr) := hnob
      have HB0 : Hid (Below W3.heap.size W3 wr) := hbr.out
      have hki : (k : Int) < 2 := by omega
      clear hnob hbr
      go_wp2_with first
        | ((with_reducible show wpList _ _ _ ({ dst := _, op := Op.load 35 (Operand.tmp 1), type := _, pos := _, after := _, guard := _ } :: _) _ _); refine armL (.tmp 1) 35 rfl rfl rfl (HLD.out _ HB0.out) ?_)
      refine Calls.mono (nob_get HN0.out 0 d) ?_
      rintro e1 x1 ⟨rfl, hb1⟩
      have HN1 : Hid (NobC (.pointer p) x1) := HN0.out.on hb1
      have HB1 : Hid (Below W3.heap.size W3 x1) := HB0.out.trans (hb1.mono HB0.out.size)
      clear hb1 HN0 HB0 hcell
      go_wp2_with first
        | ((with_reducible show wpList _ _ _ ({ dst := _, op := Op.load 35 (Operand.tmp 1), type := _, pos := _, after := _, guard := _ } :: _) _ _); refine armL (.tmp 1) 35 rfl rfl rfl (HLD.out _ HB1.out) ?_)
      refine Calls.mono (nob_told HN1.out 0 d 1) ?_
      rintro e2 x2 ⟨rfl, hb2⟩
      have HN2 : Hid (NobC (.pointer p) x2) := HN1.out.on hb2
      have HB2 : Hid (Below W3.heap.size W3 x2) := HB1.out.trans (hb2.mono HB1.out.size)
      clear hb2 HN1 HB1
      go_wp2_with first
        | ((with_reducible show wpList _ _ _ ({ dst := _, op := Op.load 35 (Operand.tmp 1), type := _, pos := _, after := _, guard := _ } :: _) _ _); refine armL (.tmp 1) 35 rfl rfl rfl (HLD.out _ HB2.out) ?_)
      refine Calls.mono (nob_drop HN2.out 0 d) ?_
      rintro e3 x3 ⟨rfl, hb3⟩
      have HN3 : Hid (NobC (.pointer p) x3) := HN2.out.on hb3
      have HB3 : Hid (Below W3.heap.size W3 x3) := HB2.out.trans (hb3.mono HB2.out.size)
      clear hb3 HN2 HB2
      go_wp2_with fail
      refine Calls.mono (nob_all HN3.out 0) ?_
      rintro e' x' ⟨rfl, hx'⟩
      obtain rfl := hx'.symm
      clear hx'
      go_wp2_with fail
      refine Calls.mono (nob_next HN3.out) ?_
      rintro e' x' ⟨rfl, hx'⟩
      obtain rfl := hx'.symm
      clear hx'
      go_wp2_with fail
      refine Calls.mono (nob_len HN3.out) ?_
      rintro e' x' ⟨rfl, hx'⟩
      obtain rfl := hx'.symm
      clear hx'
      go_wp2
      exact ⟨⟨k + 1, by omega, by simp, HB3.out⟩, by simp [intOf]; omega⟩
    · obtain rfl : k = 2 := by omega
      have HBW : Hid (Below n W wr) := HB3.out.trans (hbr.out.mono (by have h1 := HB3.out.size; have h2 := HN.out; omega))
      clear hbr
      go_wp2_with fail
      refine (awake_any _).mono ?_
      rintro e9 x9 ⟨rfl, hb9⟩
      have HF : Hid (Below W.heap.size W x9) := by rw [HN.out]; exact HBW.out.trans (hb9.mono (by have h1 := HBW.out.size; have h2 := HN.out; omega))
      clear hb9 HBW
      go_wp2
      try go_ret
      exact ⟨rfl, HF.out⟩
set_option maxRecDepth 100000 in
theorem pathmtuNobody_open {H : Type} {enc : TypeId × Value → H} {W : World} {base : Nat} (v0 : Value) {d0 : DataW H} {p0 : List MemPlace}
    (o0 : Value.okWide Try.prog W .any base 35 v0) (h0 : DataW.Trod enc Try.prog W 0 (fun _ => true) true 35 v0 d0 p0) (z0 : ∀ k ∈ d0.weights Try.prog 35, k ≤ reachBytes) :
    Calls Try.prog 6 #[v0] W fun e w' => e = .returned (.bool true) ∧ Below W.heap.size W w' := by
  obtain ⟨d, rfl, hl, hf⟩ := open_addr6 h0
  exact pathmtuNobody_walk ⟨hf, hl⟩
end Go.Proofs.Ytgndiblonhgihaa

namespace Go.Proofs.Ytgndiblonhgihaa
open Go Go.RowKit Go.Lib
set_option linter.unusedVariables false
set_option linter.unusedSimpArgs false

set_option maxHeartbeats 8000000 in
set_option maxRecDepth 100000 in
theorem may_no {cf : Cf} (h : ¬ cf.Ok) (W : World) : Calls Try.prog 19 #[.agg (cfC cf).toArray] W fun e w' => e = .returned (.bool false) ∧ Below W.heap.size W w' := by
  obtain ⟨lim, link, life, least⟩ := cf
  have HB : Hid (Below W.heap.size W (W.alloc (.cells (cfC ⟨lim, link, life, least⟩).toArray 23))) := (Below.refl W.heap.size W).alloc (Nat.le_refl _) _
  have HH : Hid (¬ ((1 ≤ lim ∧ lim ≤ 4096) ∧ (1 ≤ life ∧ life ≤ 2147483648) ∧ 68 ≤ least ∧ least ≤ link ∧ link ≤ 65535)) := fun e => h ⟨e.1, e.2.1, e.2.2.1, e.2.2.2⟩
  clear h
  unfold cfC at *
  by_cases c0 : lim < 1
  · have z : True := trivial
    have q0_0 : decide (lim < 1) = true := decide_eq_true (by omega)
    clear c0
    go_enter Try.func19, Try.ntmps19
    go_wp2_with fail
    try go_returns
    exact ⟨rfl, HB.out⟩
  have q0_0 : decide (lim < 1) = false := decide_eq_false (by omega)
  by_cases c1 : lim > 4096
  · have z : True := trivial
    have q1_0 : decide (lim > 4096) = true := decide_eq_true (by omega)
    have q1_1 : decide (4096 < lim) = true := decide_eq_true (by omega)
    clear c0 c1
    go_enter Try.func19, Try.ntmps19
    go_wp2_with fail
    try go_returns
    exact ⟨rfl, HB.out⟩
  have q1_0 : decide (lim > 4096) = false := decide_eq_false (by omega)
  have q1_1 : decide (4096 < lim) = false := decide_eq_false (by omega)
  by_cases c2 : life < 1
  · have z : True := trivial
    have q2_0 : decide (life < 1) = true := decide_eq_true (by omega)
    clear c0 c1 c2
    go_enter Try.func19, Try.ntmps19
    go_wp2_with fail
    try go_returns
    exact ⟨rfl, HB.out⟩
  have q2_0 : decide (life < 1) = false := decide_eq_false (by omega)
  by_cases c3 : life > 2147483648
  · have z : True := trivial
    have q3_0 : decide (life > 2147483648) = true := decide_eq_true (by omega)
    have q3_1 : decide (2147483648 < life) = true := decide_eq_true (by omega)
    clear c0 c1 c2 c3
    go_enter Try.func19, Try.ntmps19
    go_wp2_with fail
    try go_returns
    exact ⟨rfl, HB.out⟩
  have q3_0 : decide (life > 2147483648) = false := decide_eq_false (by omega)
  have q3_1 : decide (2147483648 < life) = false := decide_eq_false (by omega)
  by_cases c4 : least < 68
  · have z : True := trivial
    have q4_0 : decide ((68 : Int) ≤ least) = false := decide_eq_false (by omega)
    clear c0 c1 c2 c3 c4
    go_enter Try.func19, Try.ntmps19
    go_wp2_with fail
    try go_returns
    exact ⟨rfl, HB.out⟩
  have q4_0 : decide ((68 : Int) ≤ least) = true := decide_eq_true (by omega)
  by_cases c5 : least > link
  · have z : True := trivial
    have q5_0 : decide (least ≤ link) = false := decide_eq_false (by omega)
    clear c0 c1 c2 c3 c4 c5
    go_enter Try.func19, Try.ntmps19
    go_wp2_with fail
    try go_returns
    exact ⟨rfl, HB.out⟩
  have q5_0 : decide (least ≤ link) = true := decide_eq_true (by omega)
  by_cases c6 : link > 65535
  · have z : True := trivial
    have q6_0 : decide (link ≤ 65535) = false := decide_eq_false (by omega)
    clear c0 c1 c2 c3 c4 c5 c6
    go_enter Try.func19, Try.ntmps19
    go_wp2_with fail
    try go_returns
    exact ⟨rfl, HB.out⟩
  have q6_0 : decide (link ≤ 65535) = true := decide_eq_true (by omega)
  exact absurd ⟨⟨by omega, by omega⟩, ⟨by omega, by omega⟩, by omega, by omega, by omega⟩ HH.out
set_option maxHeartbeats 4000000 in
set_option maxRecDepth 100000 in
theorem New_bad {cf : Cf} (h : ¬ cf.Ok) (W : World) : Calls Try.prog 7 #[.agg (cfC cf).toArray] W fun e w' => e = .returned (.tuple #[.pointer none, .int .i64 160]) ∧ Below W.heap.size W w' := by
  have HM : Hid _ := fun X => may_no h X
  obtain ⟨lim, link, life, least⟩ := cf
  have HB1 : Hid (Below W.heap.size W (W.alloc (.cells (cfC ⟨lim, link, life, least⟩).toArray 23))) := (Below.refl W.heap.size W).alloc (Nat.le_refl _) _
  have hx : (W.alloc (.cells (cfC ⟨lim, link, life, least⟩).toArray 23)).heap[W.heap.size]? = some (.cells (cfC ⟨lim, link, life, least⟩).toArray 23) := blk_new W _
  obtain ⟨W1, hW1⟩ : ∃ W1, W1 = W.alloc (.cells (cfC ⟨lim, link, life, least⟩).toArray 23) := ⟨_, rfl⟩
  rw [← hW1] at HB1 hx
  have hW := hW1.symm
  have c0 : W1.cell? ⟨W.heap.size, 0, none⟩ = some (.int .i64 lim) := blk_cell (j := 0) hx rfl
  have c1 : W1.cell? ⟨W.heap.size, 1, none⟩ = some (.int .i64 link) := blk_cell (j := 1) hx rfl
  have c2 : W1.cell? ⟨W.heap.size, 2, none⟩ = some (.int .i64 life) := blk_cell (j := 2) hx rfl
  have c3 : W1.cell? ⟨W.heap.size, 3, none⟩ = some (.int .i64 least) := blk_cell (j := 3) hx rfl
  unfold cfC at hW ⊢
  clear hW1 hx h
  go_enter Try.func7, Try.ntmps7
  go_wp2_with fail
  refine Calls.mono (HM.out W1) ?_
  rintro e w1 ⟨rfl, hb1⟩
  have HB2 : Hid (Below W.heap.size W w1) := HB1.out.trans (hb1.mono HB1.out.size)
  clear hb1 c0 c1 c2 c3 hW
  go_wp2_with fail
  try go_returns
  exact ⟨rfl, HB2.out⟩
set_option maxHeartbeats 4000000 in
theorem Cch.len {B : Nat} {W0 V : World} {p pb mb : Nat} {cf : Cf} {now : Int} {L : List (PE × Nat)} (h : Cch B W0 V p pb mb cf now L) : Calls Try.prog 12 #[.pointer (some ⟨p, 0, none⟩)] V fun e w' => e = .returned (.int .i64 L.length) ∧ w' = V := by
  obtain ⟨line, hk, -⟩ := h.k
  obtain ⟨a, c, hl⟩ := hk.p.slc
  have HM : Hid _ := made_yes h.bx
  have c0 : V.cell? ⟨p, 0, none⟩ = some (.pointer (some ⟨pb, 0, none⟩)) := blk_cell (j := 0) h.bx rfl
  have c6 : V.cell? ⟨pb, 6, none⟩ = some (.slice a L.length c) := by rw [← hl]; exact hk.p.cell 6 _ rfl
  clear hk hl h
  go_enter Try.func12, Try.ntmps12
  go_wp2_with fail
  refine Calls.mono HM.out ?_
  rintro e w1 ⟨rfl, rfl⟩
  go_wp2_with fail
  try go_returns
  exact ⟨rfl, rfl⟩
set_option maxHeartbeats 4000000 in
theorem told_bad {V : World} {p pb mb : Nat} {cf : Cf} {now : Int} {line : Value} {L : List (PE × Nat)} (hb : Box V p pb) (h : Keeps pb cf now mb line L V) {t : Int} (ht : okT now t) {d : List Int} {z : Int} (hz : ¬ (0 ≤ z ∧ z ≤ 65535)) :
    Calls Try.prog 15 #[.pointer (some ⟨p, 0, none⟩), .int .i64 t, .agg (u8s d).toArray, .int .i64 z] V fun e w' => e = .returned (.tuple #[.bool false, .int .i64 131]) ∧ Below V.heap.size V w' := by
  obtain ⟨W1, hW1⟩ : ∃ W1, W1 = V.alloc (.cells (u8s d).toArray 35) := ⟨_, rfl⟩
  have hB1 : Below V.heap.size V W1 := by rw [hW1]; exact (Below.refl V.heap.size V).alloc (Nat.le_refl _) _
  have k1 := h.on hB1
  have x1 := hb.on (hB1.block _ hb.lt)
  have HC : Hid _ := check_yes x1 k1.p ht
  have HB : Hid (Below V.heap.size V W1) := hB1
  have hW := hW1.symm
  have HZ : Hid (¬ (0 ≤ z ∧ z ≤ 65535)) := hz
  clear hW1 hB1 k1 x1 h hb ht hz
  by_cases hc : z < 0
  · have q1 : decide (z < 0) = true := decide_eq_true hc
    clear hc
    go_enter Try.func15, Try.ntmps15
    go_wp2_with fail
    refine Calls.mono HC.out ?_
    rintro e w1 ⟨rfl, rfl⟩
    go_wp2_with fail
    try go_returns
    exact ⟨rfl, HB.out⟩
  · have q1 : decide (z < 0) = false := decide_eq_false hc
    have q2 : decide (z > 65535) = true := decide_eq_true (by have := HZ.out; omega)
    have q3 : decide (65535 < z) = true := decide_eq_true (by have := HZ.out; omega)
    clear hc
    go_enter Try.func15, Try.ntmps15
    go_wp2_with fail
    refine Calls.mono HC.out ?_
    rintro e w1 ⟨rfl, rfl⟩
    go_wp2_with fail
    try go_returns
    exact ⟨rfl, HB.out⟩
theorem Cch.bad {B : Nat} {W0 V : World} {p pb mb : Nat} {cf : Cf} {now : Int} {L : List (PE × Nat)} (h : Cch B W0 V p pb mb cf now L) {t : Int} (ht : okT now t) {d : List Int} {z : Int} (hz : ¬ (0 ≤ z ∧ z ≤ 65535)) :
    Calls Try.prog 15 #[.pointer (some ⟨p, 0, none⟩), .int .i64 t, .agg (u8s d).toArray, .int .i64 z] V fun e w' => e = .returned (.tuple #[.bool false, .int .i64 131]) ∧ Cch B W0 w' p pb mb cf now L ∧ Below V.heap.size V w' := by
  obtain ⟨line, hk, -⟩ := h.k
  refine (told_bad h.bx hk ht hz).mono ?_
  rintro e w' ⟨rfl, hb⟩
  exact ⟨rfl, h.on hb, hb⟩
theorem ex_ixI {o : Oper} {a : Act} {W : World} (p q : Operand) (hop : o.op = Op.indexAddr 46 p q) {g off len c j : Nat} (hp : a.eval p = .slice (some ⟨g, off, none⟩) len c) (hq : a.eval q = .int .i64 j) (hj : j < len) : (execOp a.eval o).run Try.prog W = .ok (.value (.pointer (some ⟨g, off + j, none⟩))) W := by
  have hs : (Instr.indexAt 46 (.slice (some ⟨g, off, none⟩) len c) (.int .i64 j)).run Try.prog W = .ok (.pointer (some ⟨g, off + j, none⟩)) W := by
    simp [Instr.indexAt, go_sem, hj]
  generalize a.eval = ev at *
  simp [execOp, hop, hp, hq, hs, Result.andThen]
/-- What a cache of one path holds. -/
def SH (cf : Cf) (d : List Int) (L : List (PE × Nat)) : Prop := L = [] ∨ ∃ m b, L = [(⟨d, m, cf.life⟩, b)] ∧ cf.least ≤ m ∧ m < cf.link
section
variable {cf : Cf} {d : List Int} {L : List (PE × Nat)}
theorem SH.len (h : SH cf d L) : L.length ≤ 1000000 := by
  rcases h with rfl | ⟨m, b, rfl, _⟩ <;> simp
theorem SH.live (h : SH cf d L) (hcf : cf.Ok) : live L 0 = L := by
  rcases h with rfl | ⟨m, b, rfl, _⟩
  · rfl
  · have := hcf.life
    simp [Go.Proofs.Ytgndiblonhgihaa.live]
    omega
theorem SH.gone (h : SH cf d L) : Go.Proofs.Ytgndiblonhgihaa.live L cf.life = [] := by
  rcases h with rfl | ⟨m, b, rfl, _⟩
  · rfl
  · simp [Go.Proofs.Ytgndiblonhgihaa.live]
theorem SH.room (h : SH cf d L) (hcf : cf.Ok) : roomL L d cf.lim = [] := by
  rcases h with rfl | ⟨m, b, rfl, _⟩
  · exact room_nil d hcf.lim.1
  · unfold roomL
    rw [if_neg (by simp [hasL])]
    simp [lackL]
end
theorem min_life {cf : Cf} (h : cf.Ok) : min (0 + cf.life) 1099511627776 = cf.life := by
  have := h.life
  omega
/-- Told at the beginning of times. -/
theorem told_fall {B : Nat} {W0 V : World} {p pb mb : Nat} {cf : Cf} {d : List Int} {L : List (PE × Nat)} (h : Cch B W0 V p pb mb cf 0 L) (hs : SH cf d L) (hcf : cf.Ok) (hd : K16 d) (z : Int) :
    Calls Try.prog 15 #[.pointer (some ⟨p, 0, none⟩), .int .i64 0, .agg (u8s d).toArray, .int .i64 z] V fun e w' => ∃ v, e = .returned v ∧ ∃ more er L', v = .tuple #[.bool more, .int .i64 er] ∧ Cch B W0 w' p pb mb cf 0 L' ∧ SH cf d L' ∧ mtuL cf L' d ≤ mtuL cf L d ∧ (er = 0 ∧ more = decide (mtuL cf L' d < mtuL cf L d) ∨ er = 131 ∧ mtuL cf L' d = mtuL cf L d) := by
  by_cases hz : 0 ≤ z ∧ z ≤ 65535
  · by_cases hk : mtuL cf L d ≤ max z cf.least
    · refine (h.keep hs.len (t := 0) ⟨by decide, by decide⟩ hd hz (by rw [hs.live hcf]; exact hk)).mono ?_
      rintro e w' ⟨rfl, hc, -⟩
      rw [hs.live hcf] at hc
      exact ⟨_, rfl, _, _, L, rfl, hc, hs, by omega, .inl ⟨rfl, by simp⟩⟩
    · have hi : ∀ b k, Stands (roomL (live L 0) d cf.lim) (⟨d, max z cf.least, (min (0 + cf.life) 1099511627776)⟩, b) k → InsK (roomL (live L 0) d cf.lim).length k := by
        rw [hs.live hcf, hs.room hcf, ← room_nil d hcf.lim.1]
        exact ins_nil d hcf.lim.1 _
      refine (h.told hs.len (t := 0) ⟨by decide, by decide⟩ hd hz hcf hi (by rw [hs.live hcf]; omega) (by omega)).mono ?_
      rintro e w' ⟨rfl, ⟨b, k, -, hc⟩, -⟩
      rw [hs.live hcf, hs.room hcf, putK_nil, min_life hcf] at hc
      have hm : mtuL cf [(⟨d, max z cf.least, cf.life⟩, b)] d = max z cf.least := mtu_one cf ⟨d, max z cf.least, cf.life⟩ b
      have hlt : max z cf.least < cf.link := by
        rcases hs with rfl | ⟨m, b', rfl, h1, h2⟩
        · have : mtuL cf [] d = cf.link := rfl
          omega
        · have : mtuL cf [(⟨d, m, cf.life⟩, b')] d = m := mtu_one cf ⟨d, m, cf.life⟩ b'
          omega
      exact ⟨_, rfl, _, _, _, rfl, hc, .inr ⟨_, b, rfl, by omega, hlt⟩, by omega, .inl ⟨rfl, (decide_eq_true (by omega)).symm⟩⟩
  · refine (h.bad (t := 0) ⟨by decide, by decide⟩ hz).mono ?_
    rintro e w' ⟨rfl, hc, -⟩
    exact ⟨_, rfl, _, _, L, rfl, hc, hs, by omega, .inr ⟨rfl, rfl⟩⟩
end Go.Proofs.Ytgndiblonhgihaa
