/-
  What is kept while the lines of a text are gone through.
  readMode.
  A line's next word as a number.
  Port sets: Check of the program, Right and Check of the document.
-/
import Derived.Test.YtaebknkjhhcneaaGreatDoorFold12
import Derived.Test.YtaebknkjhhcneaaGreatDoorFold00
import Derived.Deep.RegionLaw
import Derived.Laws.RangeAny
import Derived.Handy
import Derived.Test.YtaebknkjhhcneaaGreatDoorShelf
import Derived.Test.YtaebknkjhhcneaaGreatDoorFold07
import Derived.Deep.RegionWith
namespace Go.Proofs.YtaebknkjhhcneaaGreatDoor
open Go Go.RowKit
set_option linter.unusedVariables false
set_option linter.unusedSimpArgs false

/-- Blocks that going through a text leaves alone. -/
def Fgn : Obj → Prop
  | .stringIter _ _ => False
  | .cells _ t _ => t ≠ 170 ∧ t ≠ 172
  | _ => True

def KQ (w w' : World) : Prop := ∀ (k : Nat) (o : Obj), w.heap[k]? = some o → Fgn o → w'.heap[k]? = some o
theorem KQ.refl (w : World) : KQ w w := fun _ _ h _ => h
theorem KQ.trans {w w' w'' : World} (h : KQ w w') (g : KQ w' w'') : KQ w w'' := fun k o hk ho => g k o (h k o hk ho) ho
theorem KQ.alloc (w : World) (o : Obj) : KQ w (w.alloc o) := fun k x hk _ => blk_alloc hk o
theorem KQ.set {w : World} {L : Nat} {c : Array Value} (h : w.heap[L]? = some (.cells c 170)) (j : Nat) (v : Value) : KQ w (w.setCell ⟨L, j, none⟩ v) := fun k o hk ho => by
  refine (Below.heap_setCell _ _ _ _ (fun e => ?_)).trans hk
  have e' : k = L := e
  rw [e', h] at hk
  cases hk
  exact ho.1 rfl
theorem KQ.iterAt {w : World} {k : Nat} {s : ByteArray} {p : Nat} (h : w.heap[k]? = some (.stringIter s p)) (s' : ByteArray) (p' : Nat) : KQ w (w.iterAt k s' p') := fun j o hj ho => by
  refine (Lib.iterAt_other w k j s' p' (fun e => ?_)).trans hj
  rw [e, h] at hj
  cases hj
  exact ho

/-- The cells of words. -/
def cellsW : List (ByteArray × Int) → List Value
  | [] => []
  | x :: r => .string x.1 :: .int .i64 x.2 :: cellsW r
theorem cellsW_push (L : List (ByteArray × Int)) (x : ByteArray × Int) : cellsW (L ++ [x]) = cellsW L ++ [.string x.1, .int .i64 x.2] := by
  induction L with
  | nil => rfl
  | cons y r ih => simp [cellsW, ih]
theorem cellsW_at : ∀ (L : List (ByteArray × Int)) (j : Nat) x, L[j]? = some x → (cellsW L)[2 * j]? = some (.string x.1) ∧ (cellsW L)[2 * j + 1]? = some (.int .i64 x.2)
  | [], j, x, h => by simp at h
  | y :: r, 0, x, h => by
    simp only [List.getElem?_cons_zero, Option.some.injEq] at h
    subst h
    exact ⟨rfl, rfl⟩
  | y :: r, j + 1, x, h => by
    have ih := cellsW_at r j x (by simpa using h)
    simp only [cellsW]
    rw [show 2 * (j + 1) = 2 * j + 1 + 1 by omega]
    simpa using ih

abbrev RowW (base : Nat) (W : World) (v : Value) (L : List (ByteArray × Int)) : Prop := W.ownsRow base 172 2 v L.length (cellsW L)
theorem infoW : ∃ i, Tryz.prog.info? 172 = some i ∧ i.zero = some (.agg #[.string ⟨#[]⟩, .int .i64 0]) ∧ i.size = 2 ∧ i.bytes = 24 := by
  have h : (Tryz.prog.info? 172).map (fun i => (i.zero, i.size, i.bytes)) = some (some (.agg #[.string ⟨#[]⟩, .int .i64 0]), 2, 24) := by kernel_rfl
  obtain ⟨i, hi, e⟩ := Option.map_eq_some_iff.1 h
  simp only [Prod.mk.injEq] at e
  exact ⟨i, hi, e.1, e.2.1, e.2.2⟩

theorem RowW.words {base : Nat} {W : World} {v : Value} {L : List (ByteArray × Int)} (h : RowW base W v L) : WordsAt W v L := by
  rcases h.2 with ⟨rfl, h0⟩ | ⟨g, cap, cur, rfl, hb, hg, hn, hm, hs, ht⟩
  · have : L = [] := List.length_eq_zero_iff.1 h0
    subst this
    exact ⟨none, 0, rfl, Nat.le_refl _, by decide, fun hne => absurd rfl hne⟩
  · refine ⟨_, cap, rfl, hn, hm, fun _ => ⟨g, 0, cur, rfl, hg, fun j x hj => ?_⟩⟩
    have hlt := (List.getElem?_eq_some_iff.1 hj).1
    obtain ⟨e1, e2⟩ := cellsW_at L j x hj
    rw [← ht] at e1 e2
    rw [List.getElem?_take] at e1 e2
    rw [if_pos (by omega)] at e1 e2
    simp only [Nat.zero_add, World.cell?, hg]
    exact ⟨by simpa using e1, by simpa using e2⟩

/-- The row of words is no other block. -/
theorem RowW.other {base : Nat} {W : World} {v : Value} {L : List (ByteArray × Int)} (h : RowW base W v L) {k : Nat} {o : Obj} (hk : W.heap[k]? = some o) (ho : ∀ c, o ≠ .cells c 172) : some k ≠ v.ownBlock := by
  rcases h.2 with ⟨rfl, _⟩ | ⟨g, cap, cur, rfl, hb, hg, _⟩
  · intro e; cases e
  · intro e
    simp only [Value.ownBlock, Option.some.injEq] at e
    rw [e, hg] at hk
    exact ho _ (Option.some.inj hk).symm

def AppW (base : Nat) (W : World) (v : Value) (ws : List (ByteArray × Int)) (x : ByteArray × Int) (v' : Value) (w2 : World) : Prop :=
  RowW base w2 v' (ws ++ [x]) ∧ W.grownBy w2 v.ownBlock

theorem words_append {base : Nat} {W : World} {v : Value} {ws : List (ByteArray × Int)} (h : RowW base W v ws) (hb : base ≤ W.heap.size) (hn : ws.length ≤ 2000000) (x : ByteArray × Int) (ty : TypeId) :
    ∃ v' w2, (Builtin.append_ #[168, 168] ty #[v, .slice (some ⟨W.heap.size, 0, none⟩) 1 1]).run Tryz.prog (W.alloc (.cells #[.string x.1, .int .i64 x.2] 172)) = .ok v' w2 ∧ AppW base W v ws x v' w2 := by
  obtain ⟨i, hi, hz, hs, hby⟩ := infoW
  obtain ⟨v', w2, hrun, h1, h2, _⟩ := run_append_own (P := Tryz.prog) (W.alloc (.cells #[.string x.1, .int .i64 x.2] 172)) base 168 ty 172 i _ 2 24 Tryz.underlying168 hi hz hs hby rfl (by decide) v _ _ (World.ownsRow.alloc h _) ⟨W.heap.size, 0, none⟩ 1 1 [.string x.1, .int .i64 x.2] rfl (fun j u hj => by
    rw [Go.WideShapes.add_plain]
    have := blk_cell (c := [.string x.1, .int .i64 x.2]) (blk_new W (.cells #[.string x.1, .int .i64 x.2] 172)) hj
    simpa using this) (by simp [Value.oneCell']) (by unfold maxLen; omega) (by omega) (by simp; omega)
  refine ⟨v', w2, hrun, ?_, Gr.trans (World.grownBy_alloc _ _ _) h2⟩
  show World.ownsRow _ _ _ _ _ _ _
  rw [cellsW_push, List.length_append]
  exact h1

theorem AppW.keep {base : Nat} {W : World} {v : Value} {ws : List (ByteArray × Int)} {x : ByteArray × Int} {v' : Value} {w2 : World} (h : AppW base W v ws x v' w2) (hr : RowW base W v ws) {k : Nat} {o : Obj} (hk : W.heap[k]? = some o) (ho : ∀ c, o ≠ .cells c 172) : w2.heap[k]? = some o :=
  (h.2.block k (Array.getElem?_eq_some_iff.1 hk).1 (hr.other hk ho)).trans hk
theorem AppW.kq {base : Nat} {W : World} {v : Value} {ws : List (ByteArray × Int)} {x : ByteArray × Int} {v' : Value} {w2 : World} (h : AppW base W v ws x v' w2) (hr : RowW base W v ws) : KQ W w2 := fun k o hk ho =>
  h.keep hr hk (fun c e => by subst e; exact ho.2 rfl)
theorem AppW.form {base : Nat} {W : World} {v : Value} {ws : List (ByteArray × Int)} {x : ByteArray × Int} {v' : Value} {w2 : World} (h : AppW base W v ws x v' w2) : ∃ a cap, v' = .slice a (ws.length + 1) cap := by
  rcases h.1.2 with ⟨rfl, h0⟩ | ⟨g, cap, cur, rfl, _⟩
  · simp at h0
  · exact ⟨_, _, by rw [List.length_append]; rfl⟩
theorem RowW.form {base : Nat} {W : World} {v : Value} {ws : List (ByteArray × Int)} (h : RowW base W v ws) : ∃ a cap, v = .slice a ws.length cap := by
  rcases h.2 with ⟨rfl, h0⟩ | ⟨g, cap, cur, rfl, _⟩
  · exact ⟨none, 0, by rw [h0]⟩
  · exact ⟨_, _, rfl⟩
theorem RowW.move {base : Nat} {W W' : World} {v : Value} {ws : List (ByteArray × Int)} (h : RowW base W v ws) (hk : ∀ (g : Nat) (cs : Array Value), W.heap[g]? = some (.cells cs 172) → W'.heap[g]? = W.heap[g]?) : RowW base W' v ws := by
  refine ⟨h.1, ?_⟩
  rcases h.2 with h0 | ⟨g, cap, cur, e, hb, hg, hr⟩
  · exact .inl h0
  · exact .inr ⟨g, cap, cur, e, hb, (hk g cur hg).trans hg, hr⟩

/-- The bytes behind a letter's first are high ones. -/
theorem decode_cont (s : ByteArray) (pos : Nat) (j : Nat) (h1 : 1 ≤ j) (h2 : j < (Utf8.decode s pos).2) : pos + j < s.size ∧ 128 ≤ (s.get! (pos + j)).toNat := by
  have key : ∀ k, (pos + k < s.size && (s.get! (pos + k)).toNat / 64 == 2) = true → pos + k < s.size ∧ 128 ≤ (s.get! (pos + k)).toNat := fun k hk => by
    simp at hk
    exact ⟨hk.1, by omega⟩
  simp only [Utf8.decode] at h2
  split at h2
  · simp at h2; omega
  split at h2
  · rename_i hc
    simp only [Bool.and_eq_true] at hc
    split at h2
    · have : j = 1 := by simp at h2; omega
      subst this
      exact key 1 (by simpa using hc.2)
    · simp at h2; omega
  split at h2
  · rename_i hc
    simp only [Bool.and_eq_true] at hc
    split at h2
    · have : j = 1 ∨ j = 2 := by simp at h2; omega
      rcases this with rfl | rfl
      · exact key 1 (by simpa using hc.1.2)
      · exact key 2 (by simpa using hc.2)
    · simp at h2; omega
  split at h2
  · rename_i hc
    simp only [Bool.and_eq_true] at hc
    split at h2
    · have : j = 1 ∨ j = 2 ∨ j = 3 := by simp at h2; omega
      rcases this with rfl | rfl | rfl
      · exact key 1 (by simpa using hc.1.1.2)
      · exact key 2 (by simpa using hc.1.2)
      · exact key 3 (by simpa using hc.2)
    · simp at h2; omega
  · simp at h2; omega

theorem isSep_high {c : UInt8} (h : 128 ≤ c.toNat) : isSep c = false := by
  unfold isSep
  have : ∀ n : UInt8, n.toNat < 128 → (c == n) = false := fun n hn => by
    simp only [beq_eq_false_iff_ne, ne_eq]
    intro e
    rw [e] at h
    omega
  rw [this 32 (by decide), this 9 (by decide), this 35 (by decide), this 10 (by decide)]
  rfl

theorem lines_skip (s s' : ByteArray) (t : Sc) (pos : Nat) : ∀ k, (∀ j, j < k → pos + j < s'.size ∧ isSep (s'.get! (pos + j)) = false) → linesFrom s (s'.data.toList.drop pos) pos t = linesFrom s (s'.data.toList.drop (pos + k)) (pos + k) t
  | 0, _ => rfl
  | k + 1, h => by
    rw [lines_skip s s' t pos k (fun j hj => h j (by omega))]
    obtain ⟨h1, h2⟩ := h k (by omega)
    have hl : pos + k < s'.data.toList.length := by simpa using h1
    rw [List.drop_eq_getElem_cons hl]
    have e : s'.data.toList[pos + k] = s'.get! (pos + k) := by
      simp only [ByteArray.get!, Array.getElem_toList]
      exact (getElem!_pos s'.data (pos + k) h1).symm
    rw [e]
    rw [linesFrom, if_pos h2]
    rfl

end Go.Proofs.YtaebknkjhhcneaaGreatDoor

namespace Go.Proofs.YtaebknkjhhcneaaGreatDoor
open Go Go.RowKit
set_option linter.unusedVariables false
set_option linter.unusedSimpArgs false

def modeB : Nat → ByteArray
  | 1 => ⟨#[109, 97, 112, 45, 101]⟩
  | 2 => ⟨#[109, 97, 112, 45, 116]⟩
  | 3 => ⟨#[52, 54, 52, 120, 108, 97, 116]⟩
  | _ => ⟨#[]⟩
def mdsV : List Value := [.string ⟨#[]⟩, .string ⟨#[109, 97, 112, 45, 101]⟩, .string ⟨#[109, 97, 112, 45, 116]⟩, .string ⟨#[52, 54, 52, 120, 108, 97, 116]⟩]
/-- The names of the modes lie where they lie. -/
def Mds (w : World) : Prop := 0 < w.heap.size ∧ ∃ t fz, w.heap[0]? = some (.cells mdsV.toArray t fz)
theorem armV8 {P : Program} {w : World} {ops : Array Oper} {rest : List Oper} {o : Oper} {a : Act} {Q : Exit → Act → World → Prop} (X : Op) (hop : o.op = X) (hg : o.guard = none) {v : Value} (hrun : (execOp a.eval o).run P w = .ok (.value v) w) (hK : wpList P ops Q rest (a.put o.dst v) w) : wpList P ops Q (o :: rest) a w := by
  refine BigFrame.wpList_want (by simp [Region.wanted, hg]) fun K hK' => ?_
  unfold Oper.wp
  rw [hrun]
  exact hK' _ _ hK
theorem Mds.keep {w w' : World} (h : Mds w) (hb : w'.heap[0]? = w.heap[0]?) (hs : w.heap.size ≤ w'.heap.size) : Mds w' := by
  obtain ⟨h1, t, fz, h2⟩ := h
  exact ⟨by omega, t, fz, hb.trans h2⟩
theorem Mds.below {w w' : World} (h : Mds w) (hb : Below w.heap.size w w') : Mds w' := h.keep (hb.block _ h.1) hb.size
theorem Mds.gr {w w' : World} {L : Nat} (h : Mds w) (hL : L ≠ 0) (hG : w.grownBy w' (some L)) : Mds w' :=
  h.keep (hG.block _ h.1 (fun e => hL (Option.some.inj e).symm)) hG.size
theorem Mds.cell {w : World} (h : Mds w) {j : Nat} {v : Value} (hj : mdsV[j]? = some v) : w.cell? ⟨0, j, none⟩ = some v := by
  obtain ⟨_, t, fz, h2⟩ := h
  simp [World.cell?, h2, hj]


set_option maxRecDepth 100000 in
set_option maxHeartbeats 4000000 in
theorem readMode_1 (L : Nat) (num beh c1 c2 : Int) (w : World) (h : LineAt w L num [(⟨#[109, 111, 100, 101]⟩, c1), (⟨#[109, 97, 112, 45, 101]⟩, c2)] beh) (hm : Mds w) (hgL : L ≠ 0) :
    Calls Tryz.prog 120 #[.pointer (some ⟨L, 0, none⟩)] w fun e w' => LinePost (.int .i64 1) L num [] beh w e w' := by
  generalize hQ : (fun e w' => LinePost (.int .i64 1) L num [] beh w e w') = Q
  have HQ : Hid _ := hQ
  clear hQ
  have HN : Hid _ := must_calls L num beh (⟨#[109, 111, 100, 101]⟩, c1) _ w h
  go_enter Tryz.func120, Tryz.ntmps120
  go_wp2_with fail
  refine Calls.mono HN.out ?_
  rintro e w2 ⟨rfl, hL2, hG2⟩
  have hm2 := hm.gr hgL hG2
  have HM : Hid _ := next_calls L num beh _ _ w2 hL2
  clear HN h hm
  go_wp2_with fail
  refine Calls.mono HM.out ?_
  rintro e w3 ⟨rfl, hL3, hG3⟩
  have hm3 := (hm2.gr hgL hG3).below ((Below.refl _ w3).alloc (Nat.le_refl _) (.cells #[.string ⟨#[109, 97, 112, 45, 101]⟩, .int .i64 c2] 172))
  have H3 : Hid _ := LineAt.below hL3 ((Below.refl _ w3).alloc (Nat.le_refl _) (.cells #[.string ⟨#[109, 97, 112, 45, 101]⟩, .int .i64 c2] 172))
  have H4 : Hid _ := Gr.trans (Gr.trans hG2 hG3) (World.grownBy_alloc w3 (.cells #[.string ⟨#[109, 97, 112, 45, 101]⟩, .int .i64 c2] 172) (some L))
  have hbw := blk_new w3 (.cells #[.string ⟨#[109, 97, 112, 45, 101]⟩, .int .i64 c2] 172)
  have m0 := hm3.cell (j := 0) rfl
  have m1 := hm3.cell (j := 1) rfl
  have m2 := hm3.cell (j := 2) rfl
  have m3 := hm3.cell (j := 3) rfl
  clear HM hL2 hG2 hm2 hL3 hG3 hm3
  unfold WdV
  have wc := blk_cell (c := [_, _]) hbw (j := 0) rfl
  go_wp2
  generalize w3.alloc (.cells #[.string ⟨#[109, 97, 112, 45, 101]⟩, .int .i64 c2] 172) = WX at H3 H4 m0 m1 m2 m3 wc ⊢
  go_loopw [11] (fun i wr => ∃ j : Nat, j ≤ 1 ∧ i = .int .i64 j ∧ wr = WX) (fun i _ => 4 - (intOf i).toNat)
  case atStart => exact ⟨0, by omega, rfl, rfl⟩
  case round =>
    obtain ⟨j, hj, rfl, rfl⟩ := hrel
    have hjj : j = 0 ∨ j = 1 := by omega
    rcases hjj with rfl | rfl
    · go_wp2_with ((with_reducible show wpList _ _ _ _ _ _); refine armV8 (Op.index 134 (.tmp 10) (.tmp 11)) rfl rfl (v := .string ⟨#[]⟩) (by kernel_rfl) ?_)
      go_roundw
      case rel => exact ⟨1, by omega, rfl, trivial⟩
      case measure => decide
    · go_wp2_with ((with_reducible show wpList _ _ _ _ _ _); refine armV8 (Op.index 134 (.tmp 10) (.tmp 11)) rfl rfl (v := .string ⟨#[109, 97, 112, 45, 101]⟩) (by kernel_rfl) ?_)
      try go_ret
      rw [← HQ.out]
      exact ⟨rfl, H3.out, H4.out⟩


set_option maxRecDepth 100000 in
set_option maxHeartbeats 4000000 in
theorem readMode_2 (L : Nat) (num beh c1 c2 : Int) (w : World) (h : LineAt w L num [(⟨#[109, 111, 100, 101]⟩, c1), (⟨#[109, 97, 112, 45, 116]⟩, c2)] beh) (hm : Mds w) (hgL : L ≠ 0) :
    Calls Tryz.prog 120 #[.pointer (some ⟨L, 0, none⟩)] w fun e w' => LinePost (.int .i64 2) L num [] beh w e w' := by
  generalize hQ : (fun e w' => LinePost (.int .i64 2) L num [] beh w e w') = Q
  have HQ : Hid _ := hQ
  clear hQ
  have HN : Hid _ := must_calls L num beh (⟨#[109, 111, 100, 101]⟩, c1) _ w h
  go_enter Tryz.func120, Tryz.ntmps120
  go_wp2_with fail
  refine Calls.mono HN.out ?_
  rintro e w2 ⟨rfl, hL2, hG2⟩
  have hm2 := hm.gr hgL hG2
  have HM : Hid _ := next_calls L num beh _ _ w2 hL2
  clear HN h hm
  go_wp2_with fail
  refine Calls.mono HM.out ?_
  rintro e w3 ⟨rfl, hL3, hG3⟩
  have hm3 := (hm2.gr hgL hG3).below ((Below.refl _ w3).alloc (Nat.le_refl _) (.cells #[.string ⟨#[109, 97, 112, 45, 116]⟩, .int .i64 c2] 172))
  have H3 : Hid _ := LineAt.below hL3 ((Below.refl _ w3).alloc (Nat.le_refl _) (.cells #[.string ⟨#[109, 97, 112, 45, 116]⟩, .int .i64 c2] 172))
  have H4 : Hid _ := Gr.trans (Gr.trans hG2 hG3) (World.grownBy_alloc w3 (.cells #[.string ⟨#[109, 97, 112, 45, 116]⟩, .int .i64 c2] 172) (some L))
  have hbw := blk_new w3 (.cells #[.string ⟨#[109, 97, 112, 45, 116]⟩, .int .i64 c2] 172)
  have m0 := hm3.cell (j := 0) rfl
  have m1 := hm3.cell (j := 1) rfl
  have m2 := hm3.cell (j := 2) rfl
  have m3 := hm3.cell (j := 3) rfl
  clear HM hL2 hG2 hm2 hL3 hG3 hm3
  unfold WdV
  have wc := blk_cell (c := [_, _]) hbw (j := 0) rfl
  go_wp2
  generalize w3.alloc (.cells #[.string ⟨#[109, 97, 112, 45, 116]⟩, .int .i64 c2] 172) = WX at H3 H4 m0 m1 m2 m3 wc ⊢
  go_loopw [11] (fun i wr => ∃ j : Nat, j ≤ 2 ∧ i = .int .i64 j ∧ wr = WX) (fun i _ => 4 - (intOf i).toNat)
  case atStart => exact ⟨0, by omega, rfl, rfl⟩
  case round =>
    obtain ⟨j, hj, rfl, rfl⟩ := hrel
    have hjj : j = 0 ∨ j = 1 ∨ j = 2 := by omega
    rcases hjj with rfl | rfl | rfl
    · go_wp2_with ((with_reducible show wpList _ _ _ _ _ _); refine armV8 (Op.index 134 (.tmp 10) (.tmp 11)) rfl rfl (v := .string ⟨#[]⟩) (by kernel_rfl) ?_)
      go_roundw
      case rel => exact ⟨1, by omega, rfl, trivial⟩
      case measure => decide
    · go_wp2_with ((with_reducible show wpList _ _ _ _ _ _); refine armV8 (Op.index 134 (.tmp 10) (.tmp 11)) rfl rfl (v := .string ⟨#[109, 97, 112, 45, 101]⟩) (by kernel_rfl) ?_)
      go_roundw
      case rel => exact ⟨2, by omega, rfl, trivial⟩
      case measure => decide
    · go_wp2_with ((with_reducible show wpList _ _ _ _ _ _); refine armV8 (Op.index 134 (.tmp 10) (.tmp 11)) rfl rfl (v := .string ⟨#[109, 97, 112, 45, 116]⟩) (by kernel_rfl) ?_)
      try go_ret
      rw [← HQ.out]
      exact ⟨rfl, H3.out, H4.out⟩


set_option maxRecDepth 100000 in
set_option maxHeartbeats 4000000 in
theorem readMode_3 (L : Nat) (num beh c1 c2 : Int) (w : World) (h : LineAt w L num [(⟨#[109, 111, 100, 101]⟩, c1), (⟨#[52, 54, 52, 120, 108, 97, 116]⟩, c2)] beh) (hm : Mds w) (hgL : L ≠ 0) :
    Calls Tryz.prog 120 #[.pointer (some ⟨L, 0, none⟩)] w fun e w' => LinePost (.int .i64 3) L num [] beh w e w' := by
  generalize hQ : (fun e w' => LinePost (.int .i64 3) L num [] beh w e w') = Q
  have HQ : Hid _ := hQ
  clear hQ
  have HN : Hid _ := must_calls L num beh (⟨#[109, 111, 100, 101]⟩, c1) _ w h
  go_enter Tryz.func120, Tryz.ntmps120
  go_wp2_with fail
  refine Calls.mono HN.out ?_
  rintro e w2 ⟨rfl, hL2, hG2⟩
  have hm2 := hm.gr hgL hG2
  have HM : Hid _ := next_calls L num beh _ _ w2 hL2
  clear HN h hm
  go_wp2_with fail
  refine Calls.mono HM.out ?_
  rintro e w3 ⟨rfl, hL3, hG3⟩
  have hm3 := (hm2.gr hgL hG3).below ((Below.refl _ w3).alloc (Nat.le_refl _) (.cells #[.string ⟨#[52, 54, 52, 120, 108, 97, 116]⟩, .int .i64 c2] 172))
  have H3 : Hid _ := LineAt.below hL3 ((Below.refl _ w3).alloc (Nat.le_refl _) (.cells #[.string ⟨#[52, 54, 52, 120, 108, 97, 116]⟩, .int .i64 c2] 172))
  have H4 : Hid _ := Gr.trans (Gr.trans hG2 hG3) (World.grownBy_alloc w3 (.cells #[.string ⟨#[52, 54, 52, 120, 108, 97, 116]⟩, .int .i64 c2] 172) (some L))
  have hbw := blk_new w3 (.cells #[.string ⟨#[52, 54, 52, 120, 108, 97, 116]⟩, .int .i64 c2] 172)
  have m0 := hm3.cell (j := 0) rfl
  have m1 := hm3.cell (j := 1) rfl
  have m2 := hm3.cell (j := 2) rfl
  have m3 := hm3.cell (j := 3) rfl
  clear HM hL2 hG2 hm2 hL3 hG3 hm3
  unfold WdV
  have wc := blk_cell (c := [_, _]) hbw (j := 0) rfl
  go_wp2
  generalize w3.alloc (.cells #[.string ⟨#[52, 54, 52, 120, 108, 97, 116]⟩, .int .i64 c2] 172) = WX at H3 H4 m0 m1 m2 m3 wc ⊢
  go_loopw [11] (fun i wr => ∃ j : Nat, j ≤ 3 ∧ i = .int .i64 j ∧ wr = WX) (fun i _ => 4 - (intOf i).toNat)
  case atStart => exact ⟨0, by omega, rfl, rfl⟩
  case round =>
    obtain ⟨j, hj, rfl, rfl⟩ := hrel
    have hjj : j = 0 ∨ j = 1 ∨ j = 2 ∨ j = 3 := by omega
    rcases hjj with rfl | rfl | rfl | rfl
    · go_wp2_with ((with_reducible show wpList _ _ _ _ _ _); refine armV8 (Op.index 134 (.tmp 10) (.tmp 11)) rfl rfl (v := .string ⟨#[]⟩) (by kernel_rfl) ?_)
      go_roundw
      case rel => exact ⟨1, by omega, rfl, trivial⟩
      case measure => decide
    · go_wp2_with ((with_reducible show wpList _ _ _ _ _ _); refine armV8 (Op.index 134 (.tmp 10) (.tmp 11)) rfl rfl (v := .string ⟨#[109, 97, 112, 45, 101]⟩) (by kernel_rfl) ?_)
      go_roundw
      case rel => exact ⟨2, by omega, rfl, trivial⟩
      case measure => decide
    · go_wp2_with ((with_reducible show wpList _ _ _ _ _ _); refine armV8 (Op.index 134 (.tmp 10) (.tmp 11)) rfl rfl (v := .string ⟨#[109, 97, 112, 45, 116]⟩) (by kernel_rfl) ?_)
      go_roundw
      case rel => exact ⟨3, by omega, rfl, trivial⟩
      case measure => decide
    · go_wp2_with ((with_reducible show wpList _ _ _ _ _ _); refine armV8 (Op.index 134 (.tmp 10) (.tmp 11)) rfl rfl (v := .string ⟨#[52, 54, 52, 120, 108, 97, 116]⟩) (by kernel_rfl) ?_)
      try go_ret
      rw [← HQ.out]
      exact ⟨rfl, H3.out, H4.out⟩


end Go.Proofs.YtaebknkjhhcneaaGreatDoor

namespace Go.Proofs.YtaebknkjhhcneaaGreatDoor
open Go Go.RowKit
set_option linter.unusedVariables false
set_option linter.unusedSimpArgs false

set_option maxRecDepth 100000 in
set_option maxHeartbeats 2000000 in
theorem count_small (L : Nat) (num beh : Int) (x : ByteArray × Int) (ws : List (ByteArray × Int)) (w : World) (h : LineAt w L num (x :: ws) beh) (n : Nat) (hn : n < 100) (hx : (⟨(Lib.decDigits n).toArray⟩ : ByteArray) = x.1) (hl : x.1.size ≤ 18) (ha : Lib.atoi x.1.data.toList = some (n : Int)) :
    Calls Tryz.prog 158 #[.pointer (some ⟨L, 0, none⟩)] w fun e w' => LinePost (.int .i64 n) L num ws beh w e w' := by
  generalize hQ : (fun e w' => LinePost (.int .i64 n) L num ws beh w e w') = Q
  have HQ : Hid _ := hQ
  clear hQ
  have HN : Hid _ := next_calls L num beh x ws w h
  have HA : Hid _ := fun W => Tryz.strconv_Atoi x.1 n hl ha W
  have HI : Hid _ := fun W => Tryz.strconv_Itoa_small n hn W
  rw [hx] at HI
  clear h ha hl hx
  obtain ⟨s, c⟩ := x
  have q1 : decide ((n : Int) < 0) = false := decide_eq_false (by omega)
  have q2 : decide ((999 : Int) < n) = false := decide_eq_false (by omega)
  go_enter Tryz.func158, Tryz.ntmps158
  go_wp2_with fail
  refine Calls.mono HN.out ?_
  rintro e w' ⟨rfl, hL, hG⟩
  have H1 : Hid _ := hL
  have H2 : Hid _ := hG
  clear hL hG HN
  unfold WdV
  go_wp2_with fail
  refine Calls.mono (HA.out _) ?_
  rintro e w3 ⟨rfl, t, hw3⟩
  have hB3 : Below (w'.alloc (.cells #[.string s, .int .i64 c] 172)).heap.size (w'.alloc (.cells #[.string s, .int .i64 c] 172)) w3 := hw3 ▸ Lib.bytesWorld_below _ _ _
  have hbk := (hB3.block w'.heap.size (by simp)).trans (blk_new w' (.cells #[.string s, .int .i64 c] 172))
  have hB2 : Below w'.heap.size w' w3 := ((Below.refl _ w').alloc (Nat.le_refl _) _).trans (hB3.mono (by simp))
  have c0 : w3.cell? ⟨w'.heap.size, 0, none⟩ = some (.string s) := blk_cell (c := [_, _]) hbk rfl
  have H3 : Hid _ := LineAt.below H1.out hB2
  have H4 : Hid _ := Gr.trans H2.out (Gr.of_below hB2 _)
  clear H1 H2 HA hw3 hB3 hbk hB2
  have lb : w'.heap.size < w3.heap.size := World.block_lt_of_cell? w3 _ c0
  have c0h : ∀ x : Hi w3, x.W.cell? ⟨w'.heap.size, 0, none⟩ = some (.string s) := fun x => (x.below.cell (p := ⟨w'.heap.size, 0, none⟩) lb).trans c0
  have HI2 : Hid (∀ W, Calls Tryz.prog 40 #[.int .i64 n] W fun e w' => e = .returned (.string s) ∧ Below W.heap.size W w') := fun W => Calls.mono (HI.out W) (fun e w' h => ⟨h.1, h.2 ▸ Below.refl _ _⟩)
  clear HI
  go_wp2_with fail
  refine wp_region_hi (by kernel_rfl) (by kernel_rfl) ?_
  repeat (first | go_big_quiet_skip | (go_big_quiet_want; go_big_quiet_op; first | go_big_quiet_on | go_big_quiet_call (first | (go_at_call 40; with_reducible exact Hi.calls (HI2.out _)))))
  refine wpQuiet_nil ?_
  intro _ hw
  obtain ⟨y, rfl⟩ := hw
  go_wp2
  rw [← HQ.out]
  exact ⟨rfl, LineAt.below H3.out y.below, Gr.trans H4.out (Gr.of_below y.below _)⟩

end Go.Proofs.YtaebknkjhhcneaaGreatDoor

namespace Go.Proofs.YtaebknkjhhcneaaGreatDoor
open Go Go.RowKit
set_option linter.unusedVariables false
set_option linter.unusedSimpArgs false

/-- A port set. -/
abbrev PS (o l p : Int) : Value := .agg #[.int .i64 o, .int .i64 l, .int .u16 p]
def In64 (n : Int) : Prop := -9223372036854775808 ≤ n ∧ n ≤ 9223372036854775807
def cutOk (o l : Int) : Prop := 0 ≤ o ∧ o ≤ 15 ∧ 0 ≤ l ∧ l ≤ 16 - o
instance (o l : Int) : Decidable (cutOk o l) := by unfold cutOk; infer_instance
def setOk (o l p : Int) : Prop := cutOk o l ∧ p < 2 ^ l.toNat
instance (o l p : Int) : Decidable (setOk o l p) := by unfold setOk; infer_instance
theorem pow_le16 {l : Nat} (h : l ≤ 16) : (2 : Int) ^ l ≤ 65536 := by
  have h2 : (2 : Nat) ^ l ≤ 65536 := Nat.pow_le_pow_right (n := 2) (j := 16) (by omega) h
  have h3 : (2 : Int) ^ l = ((2 ^ l : Nat) : Int) := by rw [Int.natCast_pow]; rfl
  rw [h3]
  omega
theorem pow_ge1 (l : Nat) : (1 : Int) ≤ 2 ^ l := by
  have h2 : 1 ≤ (2 : Nat) ^ l := Nat.one_le_two_pow
  have h3 : (2 : Int) ^ l = ((2 ^ l : Nat) : Int) := by rw [Int.natCast_pow]; rfl
  rw [h3]
  omega
theorem bA (w : World) (o : Obj) : Below w.heap.size w (w.alloc o) := (Below.refl _ w).alloc (Nat.le_refl _) o
theorem bD {B : Nat} {u w : World} (h : Below B u w) (n : Nat) : Below B u (w.drewN n) := ⟨h.os, h.tape, h.output, h.size, h.block⟩

theorem cutOk_zero {o l : Int} (h : cutOk o l) : setOk o l 0 := ⟨h, by have := pow_ge1 l.toNat; omega⟩

set_option maxHeartbeats 400000 in
theorem Check_any (o l p : Int) (w : World) (ho : In64 o) (hl : In64 l) (hp : 0 ≤ p ∧ p < 65536) :
    Calls Tryz.prog 65 #[PS o l p] w fun e w' => e = .returned (.int .i64 (if setOk o l p then 0 else 90)) ∧ Below w.heap.size w w' := by
  obtain ⟨ho1, ho2⟩ := ho
  obtain ⟨hl1, hl2⟩ := hl
  have hB := bA w (Obj.cells #[.int .i64 o, .int .i64 l, .int .u16 p] 67)
  by_cases h1 : 0 ≤ o ∧ o ≤ 15
  · by_cases h2 : 0 ≤ l ∧ l ≤ 16 - o
    · obtain ⟨n, rfl⟩ := Int.eq_ofNat_of_zero_le h2.1
      have k1 := pow_le16 (l := n) (by omega)
      have k2 := pow_ge1 n
      by_cases h3 : p < 2 ^ n
      · rw [if_pos (show setOk o n p from ⟨⟨h1.1, h1.2, h2.1, h2.2⟩, by simpa using h3⟩)]
        go_enter Tryz.func65, Tryz.ntmps65
        go_wp2
        go_quiet (fail)
        go_wp2
        go_ret
        exact ⟨rfl, bD hB _⟩
      · rw [if_neg (show ¬ setOk o n p from fun h => h3 (by simpa using h.2))]
        go_enter Tryz.func65, Tryz.ntmps65
        go_wp2
        go_quiet (fail)
        go_wp2
        go_ret
        exact ⟨rfl, bD hB _⟩
    · rw [if_neg (show ¬ setOk o l p from fun h => h2 h.1.2.2)]
      go_enter Tryz.func65, Tryz.ntmps65
      go_wp2
      all_goals
        go_ret
        exact ⟨rfl, hB⟩
  · rw [if_neg (show ¬ setOk o l p from fun h => h1 ⟨h.1.1, h.1.2.1⟩)]
    go_enter Tryz.func65, Tryz.ntmps65
    go_wp2
    all_goals
      go_ret
      exact ⟨rfl, hB⟩

set_option maxHeartbeats 1000000 in
theorem Right_any (o l p : Int) (w : World) (ho : In64 o) (hl : In64 l) (hp : 0 ≤ p ∧ p < 65536) :
    Calls Tryz.prog 101 #[PS o l p] w fun e w' => e = .returned (.bool (decide (setOk o l p))) ∧ Below w.heap.size w w' := by
  obtain ⟨ho1, ho2⟩ := ho
  obtain ⟨hl1, hl2⟩ := hl
  have hB := bA w (Obj.cells #[.int .i64 o, .int .i64 l, .int .u16 p] 67)
  by_cases h1 : 0 ≤ o
  · by_cases h2 : o ≤ 15
    · by_cases h3 : 0 ≤ l
      · by_cases h4 : l ≤ 16 - o
        · obtain ⟨n, rfl⟩ := Int.eq_ofNat_of_zero_le h3
          have k1 := pow_le16 (l := n) (by omega)
          have k2 := pow_ge1 n
          by_cases h5 : p < 2 ^ n
          · rw [decide_eq_true (show setOk o n p from ⟨⟨h1, h2, h3, h4⟩, by simpa using h5⟩)]
            go_enter Tryz.func101, Tryz.ntmps101
            go_wp2
            go_quiet (fail)
            go_wp2
            go_ret
            exact ⟨by simp [*], bD hB _⟩
          · rw [decide_eq_false (show ¬ setOk o n p from fun h => h5 (by simpa using h.2))]
            go_enter Tryz.func101, Tryz.ntmps101
            go_wp2
            go_quiet (fail)
            go_wp2
            go_ret
            exact ⟨by simp [*], bD hB _⟩
        · rw [decide_eq_false (show ¬ setOk o l p from fun h => h4 h.1.2.2.2)]
          have d4 : decide (l ≤ 16 - o) = false := decide_eq_false h4
          go_enter Tryz.func101, Tryz.ntmps101
          go_wp2
          go_quiet (fail)
          go_wp2
          go_ret
          exact ⟨by simp [*], bD hB _⟩
      · rw [decide_eq_false (show ¬ setOk o l p from fun h => h3 h.1.2.2.1)]
        have d3 : decide (0 ≤ l) = false := decide_eq_false h3
        go_enter Tryz.func101, Tryz.ntmps101
        go_wp2
        go_quiet (fail)
        go_wp2
        go_ret
        exact ⟨by simp [*], bD hB _⟩
    · rw [decide_eq_false (show ¬ setOk o l p from fun h => h2 h.1.2.1)]
      have d2 : decide (o ≤ 15) = false := decide_eq_false h2
      go_enter Tryz.func101, Tryz.ntmps101
      go_wp2
      go_quiet (fail)
      go_wp2
      go_ret
      exact ⟨by simp [*], bD hB _⟩
  · rw [decide_eq_false (show ¬ setOk o l p from fun h => h1 h.1.1)]
    have d1 : decide (0 ≤ o) = false := decide_eq_false h1
    go_enter Tryz.func101, Tryz.ntmps101
    go_wp2
    go_quiet (fail)
    go_wp2
    go_ret
    exact ⟨by simp [*], bD hB _⟩

end Go.Proofs.YtaebknkjhhcneaaGreatDoor
