/-
  A text's lines and their words, plainly.
  Lines of words in memory: next, must, may, end.
  Lines of words: must, may, end.
  A line's next word as a thing that a call of addr reads.
-/
import Derived.Test.YtaebknkjhhcneaaGreatDoorProg
import Derived.Test.YtaebknkjhhcneaaGreatDoorFold08
namespace Go.Proofs.YtaebknkjhhcneaaGreatDoor
open Go
set_option linter.unusedVariables false
set_option linter.unusedSimpArgs false

/-- A line that has words: its number, its words with their columns, the column behind the last one. -/
structure Ln where
  num : Int
  words : List (ByteArray × Int)
  beh : Int

/-- How far a text is gone through: the line, where it and the word began, whether a remark has begun. -/
structure Sc where
  ln : Ln
  beg : Nat
  frm : Nat
  rem : Bool

def Sc.new (n : Int) (i : Nat) : Sc := ⟨⟨n, [], 0⟩, i, i, false⟩

/-- A word ends. -/
def Sc.cut (s : ByteArray) (i : Nat) (t : Sc) : Sc :=
  if t.frm < i ∧ t.rem = false then { t with ln := ⟨t.ln.num, t.ln.words ++ [(s.extract t.frm i, (t.frm : Int) - t.beg + 1)], (i : Int) - t.beg + 1⟩ } else t

def isSep (c : UInt8) : Bool := c == 32 || c == 9 || c == 35 || c == 10

def linesFrom (s : ByteArray) : List UInt8 → Nat → Sc → List Ln
  | [], _, _ => []
  | c :: r, i, t =>
    if isSep c = false then linesFrom s r (i + 1) t
    else if c = 10 then (if (t.cut s i).ln.words = [] then [] else [(t.cut s i).ln]) ++ linesFrom s r (i + 1) (Sc.new ((t.cut s i).ln.num + 1) (i + 1))
    else linesFrom s r (i + 1) { t.cut s i with frm := i + 1, rem := t.rem || c == 35 }

/-- The lines of a text that have words. -/
def linesOf (s : ByteArray) : List Ln := linesFrom s (s.data.toList ++ [10]) 0 (Sc.new 1 0)

end Go.Proofs.YtaebknkjhhcneaaGreatDoor

namespace Go.Proofs.YtaebknkjhhcneaaGreatDoor
open Go Go.RowKit
set_option linter.unusedVariables false
set_option linter.unusedSimpArgs false

theorem Gr.trans {w w' w'' : World} {r : Option Nat} (h : w.grownBy w' r) (g : w'.grownBy w'' r) : w.grownBy w'' r :=
  ⟨g.os.trans h.os, g.tape.trans h.tape, g.output.trans h.output, Nat.le_trans h.size g.size, fun k hk hn => (g.block k (Nat.lt_of_lt_of_le hk h.size) hn).trans (h.block k hk hn)⟩
theorem Gr.of_below {w w' : World} (h : Below w.heap.size w w') (r : Option Nat) : w.grownBy w' r :=
  ⟨h.os, h.tape, h.output, h.size, fun k hk _ => h.block k hk⟩
theorem Gr.below {w w' : World} {B L : Nat} (h : w.grownBy w' (some L)) (hB : B ≤ L) (hw : B ≤ w.heap.size) : Below B w w' :=
  ⟨h.os, h.tape, h.output, h.size, fun k hk => h.block k (by omega) (fun e => by cases e; omega)⟩
theorem Gr.none {w w' : World} (h : w.grownBy w' none) : Below w.heap.size w w' :=
  ⟨h.os, h.tape, h.output, h.size, fun k hk => h.block k hk (fun e => by cases e)⟩
theorem Gr.only {w w' : World} {L : Nat} (h : Only L w w') : w.grownBy w' (some L) :=
  ⟨h.os, h.tape, h.output, Nat.le_of_eq h.size.symm, fun k hk hn => h.other k (fun e => hn (by rw [e]))⟩

theorem res1c {P : Program} {fn : Func} {a : Tmp} {t : TypeId} (h : fn.results = #[.cell a t]) {tmps : Array Value} {R : Addr} (hp : tmps.getD a undef = .pointer (some R)) {v : Value} {w : World} (hl : (loadVar t R).run P w = .ok v w) :
    (results fn tmps).run P w = .ok v w := by
  rw [Array.getD_eq_getD_getElem?] at hp
  simp [results, h, hp, asAddr, hl]

theorem CellsAt.blk {w : World} {b : Nat} {c : List Value} {t : TypeId} (h : w.heap[b]? = some (.cells c.toArray t)) : CellsAt w b 0 c := fun j v hj => by
  rw [Nat.zero_add]
  exact blk_cell h hj
theorem loadWd {w : World} {b : Nat} {x : ByteArray × Int} (h : w.heap[b]? = some (.cells #[.string x.1, .int .i64 x.2] 172)) : (loadVar 172 ⟨b, 0, none⟩).run Tryz.prog w = .ok (.agg #[.string x.1, .int .i64 x.2]) w :=
  agg_loadVar (vs := [.string x.1, .int .i64 x.2]) (fun w => by kernel_rfl) (fun w => by kernel_rfl) rfl (CellsAt.blk h)

theorem blk_new_set (w : World) (p : Addr) (v : Value) (o : Obj) : ((w.setCell p v).alloc o).heap[w.heap.size]? = some o := by
  have h := blk_new (w.setCell p v) o
  rwa [show (w.setCell p v).heap.size = w.heap.size by simp [World.setCell]] at h

/-- A word as a value. -/
def WdV (x : ByteArray × Int) : Value := .agg #[.string x.1, .int .i64 x.2]

/-- The words that a slice holds. -/
def WordsAt (w : World) (v : Value) (ws : List (ByteArray × Int)) : Prop :=
  ∃ ad cap, v = .slice ad ws.length cap ∧ ws.length ≤ cap ∧ cap ≤ maxLen ∧ (ws ≠ [] → ∃ g off cs, ad = some ⟨g, off, none⟩ ∧ w.heap[g]? = some (.cells cs 172) ∧ ∀ (j : Nat) x, ws[j]? = some x → w.cell? ⟨g, off + 2 * j, none⟩ = some (.string x.1) ∧ w.cell? ⟨g, off + 2 * j + 1, none⟩ = some (.int .i64 x.2))

theorem WordsAt.keep {w w' : World} {v : Value} {ws : List (ByteArray × Int)} (h : WordsAt w v ws) (hk : ∀ (g : Nat) (cs : Array Value), w.heap[g]? = some (.cells cs 172) → w'.heap[g]? = w.heap[g]?) : WordsAt w' v ws := by
  obtain ⟨ad, cap, e, h1, h2, h3⟩ := h
  refine ⟨ad, cap, e, h1, h2, fun hne => ?_⟩
  obtain ⟨g, off, cs, e1, hg, hc⟩ := h3 hne
  have hb := hk g cs hg
  have ec := fun i => World.cell?_of_block (a := ⟨g, i, none⟩) hb
  exact ⟨g, off, cs, e1, hb.trans hg, fun j x hj => ⟨(ec _).trans (hc j x hj).1, (ec _).trans (hc j x hj).2⟩⟩

/-- A line in a box, with the words that are not read yet. -/
def LineAt (w : World) (L : Nat) (num : Int) (ws : List (ByteArray × Int)) (beh : Int) : Prop :=
  ∃ v, w.heap[L]? = some (.cells #[.int .i64 num, v, .int .i64 beh] 170) ∧ WordsAt w v ws

theorem LineAt.lt {w : World} {L : Nat} {num beh : Int} {ws : List (ByteArray × Int)} (h : LineAt w L num ws beh) : L < w.heap.size := by
  obtain ⟨v, hb, _⟩ := h
  exact (Array.getElem?_eq_some_iff.1 hb).1
theorem LineAt.below {w w' : World} {L : Nat} {num beh : Int} {ws : List (ByteArray × Int)} (h : LineAt w L num ws beh) (hb : Below w.heap.size w w') : LineAt w' L num ws beh := by
  obtain ⟨v, h1, h2⟩ := h
  exact ⟨v, (hb.block L (Array.getElem?_eq_some_iff.1 h1).1).trans h1, h2.keep fun g cs hg => hb.block g (Array.getElem?_eq_some_iff.1 hg).1⟩

def LinePost (v : Value) (L : Nat) (num : Int) (ws : List (ByteArray × Int)) (beh : Int) (w : World) (e : Ending) (w' : World) : Prop := e = .returned v ∧ LineAt w' L num ws beh ∧ w.grownBy w' (some L)

set_option maxRecDepth 100000 in
set_option maxHeartbeats 1000000 in
theorem next_calls (L : Nat) (num beh : Int) (x : ByteArray × Int) (ws : List (ByteArray × Int)) (w : World) (h : LineAt w L num (x :: ws) beh) :
    Calls Tryz.prog 151 #[.pointer (some ⟨L, 0, none⟩)] w fun e w' => LinePost (WdV x) L num ws beh w e w' := by
  generalize hQ : (fun e w' => LinePost (WdV x) L num ws beh w e w') = Q
  have HQ : Hid _ := hQ
  clear hQ
  obtain ⟨v, hb, ad, cap, rfl, h1, h2, h3⟩ := h
  obtain ⟨g, off, cs, rfl, hg, hc⟩ := h3 (by simp)
  clear h3
  obtain ⟨c0, c1⟩ := hc 0 x rfl
  have HC : Hid _ := hc
  clear hc
  simp only [Nat.mul_zero, Nat.add_zero] at c0 c1
  have lg := (Array.getElem?_eq_some_iff.1 hg).1
  have lL := (Array.getElem?_eq_some_iff.1 hb).1
  have hne : g ≠ L := fun e => by rw [e, hb] at hg; cases hg
  have hlen : ((x :: ws).length : Int) = ws.length + 1 := by simp
  have hB1 := fun o => (Below.refl w.heap.size w).alloc (Nat.le_refl _) o
  have hB2 := fun o o' => (hB1 o).alloc (by simp) o'
  have c01 := fun o => ((hB1 o).cell (p := ⟨g, off, none⟩) lg).trans c0
  have c11 := fun o => ((hB1 o).cell (p := ⟨g, off + 1, none⟩) lg).trans c1
  have x1 : ∀ o, (w.alloc o).cell? ⟨L, 1, none⟩ = some _ := fun o => blk_cell (c := [_, _, _]) (blk_alloc hb o) rfl
  have x2 : ∀ o o', ((w.alloc o).alloc o').cell? ⟨L, 1, none⟩ = some _ := fun o o' => blk_cell (c := [_, _, _]) (blk_alloc (blk_alloc hb o) o') rfl
  have x2f : ∀ o o', ((w.alloc o).alloc o').frozen? ⟨L, 1, none⟩ = false := fun o o' => blk_open (c := [_, _, _]) (blk_alloc (blk_alloc hb o) o') 1
  generalize hn : (x :: ws).length = n at *
  have q0 : ((n : Int) == 0) = false := by simp; omega
  have q1 : decide ((0 : Int) < n) = true := by simp; omega
  have n1 : L ≠ w.heap.size := by omega
  have n2 : L ≠ w.heap.size + 1 := by omega
  have n3 : w.heap.size ≠ L := by omega
  have n4 : w.heap.size + 1 ≠ L := by omega
  go_enter Tryz.func151, Tryz.ntmps151
  go_wp2
  all_goals
    refine bodyPost_ret (res1c Tryz.results151 (R := ⟨w.heap.size, 0, none⟩) rfl (loadWd (x := x) (blk_alloc (blk_new_set _ _ _ _) _))) rfl ?_
    rw [← HQ.out]
    have hws : ws.length = n - 1 := by omega
    refine ⟨rfl, ⟨_, blk_alloc (blk_alloc (blk_set (c := [_, _, _]) hb 1 _) _) _, _, _, by rw [hws], by omega, by omega, fun hne' => ?_⟩, ?_⟩
  · exact absurd (List.length_eq_zero_iff.1 (by omega)) hne'
  · exact Gr.trans (Gr.trans (Gr.only ((Only.refl L w).set 1 _)) (World.grownBy_alloc _ _ _)) (World.grownBy_alloc _ _ _)
  · refine ⟨g, off + 2, cs, rfl, blk_alloc (blk_alloc (blk_set_other hg hne 1 _) _) _, fun j y hj => ?_⟩
    have := HC.out (j + 1) y hj
    have ec : ∀ i, (((w.setCell ⟨L, 1, none⟩ (.slice (some ⟨g, off + 2, none⟩) (n - 1) (cap - 1))).alloc (.cells #[.string x.1, .int .i64 x.2] 172)).alloc (.cells #[.string x.1, .int .i64 x.2] 172)).cell? ⟨g, i, none⟩ = w.cell? ⟨g, i, none⟩ := fun i => World.cell?_of_block ((blk_alloc (blk_alloc (blk_set_other hg hne 1 _) _) _).trans hg.symm)
    rw [ec, ec, show off + 2 + 2 * j = off + 2 * (j + 1) by omega]
    exact this
  · exact Gr.trans (Gr.trans (Gr.only ((Only.refl L w).set 1 _)) (World.grownBy_alloc _ _ _)) (World.grownBy_alloc _ _ _)

end Go.Proofs.YtaebknkjhhcneaaGreatDoor

namespace Go.Proofs.YtaebknkjhhcneaaGreatDoor
open Go Go.RowKit
set_option linter.unusedVariables false
set_option linter.unusedSimpArgs false

set_option maxRecDepth 100000 in
set_option maxHeartbeats 1000000 in
theorem must_calls (L : Nat) (num beh : Int) (x : ByteArray × Int) (ws : List (ByteArray × Int)) (w : World) (h : LineAt w L num (x :: ws) beh) :
    Calls Tryz.prog 121 #[.pointer (some ⟨L, 0, none⟩), .string x.1] w fun e w' => LinePost (.tuple #[]) L num ws beh w e w' := by
  generalize hQ : (fun e w' => LinePost (.tuple #[]) L num ws beh w e w') = Q
  have HQ : Hid _ := hQ
  clear hQ
  have HN : Hid _ := next_calls L num beh x ws w h
  clear h
  obtain ⟨s, c⟩ := x
  go_enter Tryz.func121, Tryz.ntmps121
  go_wp2_with fail
  refine Calls.mono HN.out ?_
  rintro e w' ⟨rfl, hL, hG⟩
  have H1 : Hid _ := hL
  have H2 : Hid _ := hG
  clear hL hG
  unfold WdV
  go_wp2
  go_end0
  rw [← HQ.out]
  exact ⟨rfl, LineAt.below H1.out ((Below.refl _ _).alloc (Nat.le_refl _) _), Gr.trans H2.out (World.grownBy_alloc _ _ _)⟩

set_option maxRecDepth 100000 in
set_option maxHeartbeats 1000000 in
theorem may_yes (L : Nat) (num beh : Int) (x : ByteArray × Int) (ws : List (ByteArray × Int)) (w : World) (h : LineAt w L num (x :: ws) beh) :
    Calls Tryz.prog 159 #[.pointer (some ⟨L, 0, none⟩), .string x.1] w fun e w' => LinePost (.bool true) L num ws beh w e w' := by
  generalize hQ : (fun e w' => LinePost (.bool true) L num ws beh w e w') = Q
  have HQ : Hid _ := hQ
  clear hQ
  have HN : Hid _ := must_calls L num beh x ws w h
  obtain ⟨v, hb, ad, cap, rfl, h1, h2, h3⟩ := h
  have c1 : w.cell? ⟨L, 1, none⟩ = some _ := blk_cell (c := [_, _, _]) hb rfl
  have q0 : (((x :: ws).length : Int) == 0) = false := by simp; omega
  generalize (x :: ws).length = n at *
  clear h3 hb
  go_enter Tryz.func159, Tryz.ntmps159
  go_wp2_with fail
  refine Calls.mono HN.out ?_
  rintro e w' ⟨rfl, hL, hG⟩
  go_wp2
  rw [← HQ.out]
  exact ⟨rfl, hL, hG⟩

set_option maxRecDepth 100000 in
set_option maxHeartbeats 1000000 in
theorem may_no (L : Nat) (num beh : Int) (s : ByteArray) (w : World) (h : LineAt w L num [] beh) :
    Calls Tryz.prog 159 #[.pointer (some ⟨L, 0, none⟩), .string s] w fun e w' => e = .returned (.bool false) ∧ w' = w := by
  obtain ⟨v, hb, ad, cap, rfl, h1, h2, h3⟩ := h
  have c1 : w.cell? ⟨L, 1, none⟩ = some (.slice ad 0 cap) := blk_cell (c := [_, _, _]) hb rfl
  clear h3 hb
  go_enter Tryz.func159, Tryz.ntmps159
  go_wp2
  go_ret
  exact ⟨rfl, rfl⟩

set_option maxRecDepth 100000 in
set_option maxHeartbeats 1000000 in
theorem end_calls (L : Nat) (num beh : Int) (w : World) (h : LineAt w L num [] beh) :
    Calls Tryz.prog 127 #[.pointer (some ⟨L, 0, none⟩)] w fun e w' => e = .returned (.tuple #[]) ∧ w' = w := by
  obtain ⟨v, hb, ad, cap, rfl, h1, h2, h3⟩ := h
  have c1 : w.cell? ⟨L, 1, none⟩ = some (.slice ad 0 cap) := blk_cell (c := [_, _, _]) hb rfl
  clear h3 hb
  go_enter Tryz.func127, Tryz.ntmps127
  go_wp2
  go_end0
  exact ⟨rfl, rfl⟩

end Go.Proofs.YtaebknkjhhcneaaGreatDoor

namespace Go.Proofs.YtaebknkjhhcneaaGreatDoor
open Go Go.RowKit
set_option linter.unusedVariables false
set_option linter.unusedSimpArgs false


set_option maxRecDepth 100000 in
set_option maxHeartbeats 2000000 in
theorem thing_Addr6 (L : Nat) (num beh : Int) (x : ByteArray × Int) (ws : List (ByteArray × Int)) (w : World) (h : LineAt w L num (x :: ws) beh) (V : List Value) (hV : V.length = 16) (h1 : ∀ v ∈ V, v.oneCell' = true)
    (hp : ∀ W, Calls Tryz.prog 123 #[.string x.1] W fun e w' => e = .returned (.tuple #[.agg V.toArray, .int .i64 0, .int .i64 0]) ∧ Below W.heap.size W w') :
    Calls Tryz.prog 122 #[.pointer (some ⟨L, 0, none⟩), .func (.func 123) #[] #[]] w fun e w' => LinePost (.agg V.toArray) L num ws beh w e w' := by
  generalize hQ : (fun e w' => LinePost (.agg V.toArray) L num ws beh w e w') = Q
  have HQ : Hid _ := hQ
  clear hQ
  have HP : Hid _ := hp
  clear hp
  have hB1 := (Below.refl w.heap.size w).alloc (Nat.le_refl _) (.cells ([.int .u8 0, .int .u8 0, .int .u8 0, .int .u8 0, .int .u8 0, .int .u8 0, .int .u8 0, .int .u8 0, .int .u8 0, .int .u8 0, .int .u8 0, .int .u8 0, .int .u8 0, .int .u8 0, .int .u8 0, .int .u8 0] : List Value).toArray 24)
  have hr1 := blk_new w (.cells ([.int .u8 0, .int .u8 0, .int .u8 0, .int .u8 0, .int .u8 0, .int .u8 0, .int .u8 0, .int .u8 0, .int .u8 0, .int .u8 0, .int .u8 0, .int .u8 0, .int .u8 0, .int .u8 0, .int .u8 0, .int .u8 0] : List Value).toArray 24)
  have lL := h.lt
  have h' := h.below hB1
  generalize hW1 : w.alloc (.cells ([.int .u8 0, .int .u8 0, .int .u8 0, .int .u8 0, .int .u8 0, .int .u8 0, .int .u8 0, .int .u8 0, .int .u8 0, .int .u8 0, .int .u8 0, .int .u8 0, .int .u8 0, .int .u8 0, .int .u8 0, .int .u8 0] : List Value).toArray 24) = W1 at hB1 hr1 h'
  have HN : Hid _ := next_calls L num beh x ws W1 h'
  have hW1' : w.alloc (.cells #[.int .u8 0, .int .u8 0, .int .u8 0, .int .u8 0, .int .u8 0, .int .u8 0, .int .u8 0, .int .u8 0, .int .u8 0, .int .u8 0, .int .u8 0, .int .u8 0, .int .u8 0, .int .u8 0, .int .u8 0, .int .u8 0] 24) = W1 := hW1
  clear h h' hW1
  obtain ⟨s, c⟩ := x
  go_enter Tryz.func122, Tryz.ntmps122
  go_wp2_with fail
  refine Calls.mono HN.out ?_
  rintro e w2 ⟨rfl, hL, hG⟩
  clear HN hW1'
  have hr2 := (hG.block w.heap.size (Array.getElem?_eq_some_iff.1 hr1).1 (fun e => by cases e; omega)).trans hr1
  have HL2 : Hid _ := hL
  have hG2 : w.grownBy w2 (some L) := Gr.trans (Gr.of_below hB1 _) hG
  have lr2 := (Array.getElem?_eq_some_iff.1 hr2).1
  have lL2 := LineAt.lt hL
  clear hL hG hr1 hB1
  unfold WdV
  go_wp2_with fail
  refine Calls.mono (HP.out _) ?_
  rintro e w4 ⟨rfl, hB4⟩
  have hB2 : Below w2.heap.size w2 w4 := ((Below.refl _ w2).alloc (Nat.le_refl _) _).trans (hB4.mono (by simp))
  have hr4 := (hB2.block _ lr2).trans hr2
  have HL4 : Hid _ := LineAt.below HL2.out hB2
  have hG4 : w.grownBy w4 (some L) := Gr.trans hG2 (Gr.of_below hB2 _)
  have lL4 := LineAt.lt HL4.out
  obtain ⟨w5, hst, hb5, hB5⟩ := box_new (ty := 24) (n := 16) (fun w => by kernel_rfl) w4 [.int .u8 0, .int .u8 0, .int .u8 0, .int .u8 0, .int .u8 0, .int .u8 0, .int .u8 0, .int .u8 0, .int .u8 0, .int .u8 0, .int .u8 0, .int .u8 0, .int .u8 0, .int .u8 0, .int .u8 0, .int .u8 0] rfl V hV h1
  have HST : Hid _ := hst
  have hr5 := (hB5.block _ (Array.getElem?_eq_some_iff.1 hr4).1).trans hr4
  have HLD : Hid _ := agg_load (t := 24) (n := 16) (fun w => by kernel_rfl) (fun w => by kernel_rfl) hV (CellsAt.blk hb5)
  obtain ⟨w6, hst6, hb6, ho6⟩ := box_store (ty := 24) (n := 16) (fun w => by kernel_rfl) hr5 rfl V hV h1
  have HST6 : Hid _ := hst6
  have HRES : Hid _ := agg_loadVar (t := 24) (n := 16) (fun w => by kernel_rfl) (fun w => by kernel_rfl) hV (CellsAt.blk hb6)
  clear hst hst6 hr2 hr4 hB4 HL2 HP
  go_wp2_with first
    | ((with_reducible show wpList _ _ _ _ _ _); refine armS (.tmp 6) (.tmp 16) 24 rfl rfl rfl rfl HST.out ?_)
    | ((with_reducible show wpList _ _ _ _ _ _); refine armL (.tmp 6) 24 rfl rfl rfl HLD.out ?_)
    | ((with_reducible show wpList _ _ _ _ _ _); refine armS (.tmp 4) (.tmp 25) 24 rfl rfl rfl rfl HST6.out ?_)
  refine bodyPost_ret (res1c Tryz.results122 (R := ⟨w.heap.size, 0, none⟩) rfl HRES.out) rfl ?_
  rw [← HQ.out]
  have hL5 := LineAt.below HL4.out hB5
  have hne : w.heap.size ≠ L := by omega
  obtain ⟨v, k1, k2⟩ := hL5
  have hL6 : LineAt w6 L num ws beh := by
    refine ⟨v, (ho6.other L (fun e => hne e.symm)).trans k1, k2.keep fun g cs hg => ho6.other g (fun e => ?_)⟩
    rw [e, hr5] at hg
    cases hg
  have hsz : w4.heap.size ≤ w5.heap.size := hB5.size
  refine ⟨rfl, hL6, ?_⟩
  have hG5 := Gr.trans hG4 (Gr.of_below hB5 _)
  exact ⟨ho6.os.trans hG5.os, ho6.tape.trans hG5.tape, ho6.output.trans hG5.output, Nat.le_trans hG5.size (Nat.le_of_eq ho6.size.symm), fun k hk hn => (ho6.other k (by omega)).trans (hG5.block k hk hn)⟩


set_option maxRecDepth 100000 in
set_option maxHeartbeats 2000000 in
theorem thing_Prefix6 (L : Nat) (num beh : Int) (x : ByteArray × Int) (ws : List (ByteArray × Int)) (w : World) (h : LineAt w L num (x :: ws) beh) (V : List Value) (hV : V.length = 17) (h1 : ∀ v ∈ V, v.oneCell' = true)
    (hp : ∀ W, Calls Tryz.prog 125 #[.string x.1] W fun e w' => e = .returned (.tuple #[.agg V.toArray, .int .i64 0, .int .i64 0]) ∧ Below W.heap.size W w') :
    Calls Tryz.prog 124 #[.pointer (some ⟨L, 0, none⟩), .func (.func 125) #[] #[]] w fun e w' => LinePost (.agg V.toArray) L num ws beh w e w' := by
  generalize hQ : (fun e w' => LinePost (.agg V.toArray) L num ws beh w e w') = Q
  have HQ : Hid _ := hQ
  clear hQ
  have HP : Hid _ := hp
  clear hp
  have hB1 := (Below.refl w.heap.size w).alloc (Nat.le_refl _) (.cells ([.int .u8 0, .int .u8 0, .int .u8 0, .int .u8 0, .int .u8 0, .int .u8 0, .int .u8 0, .int .u8 0, .int .u8 0, .int .u8 0, .int .u8 0, .int .u8 0, .int .u8 0, .int .u8 0, .int .u8 0, .int .u8 0, .int .i64 0] : List Value).toArray 26)
  have hr1 := blk_new w (.cells ([.int .u8 0, .int .u8 0, .int .u8 0, .int .u8 0, .int .u8 0, .int .u8 0, .int .u8 0, .int .u8 0, .int .u8 0, .int .u8 0, .int .u8 0, .int .u8 0, .int .u8 0, .int .u8 0, .int .u8 0, .int .u8 0, .int .i64 0] : List Value).toArray 26)
  have lL := h.lt
  have h' := h.below hB1
  generalize hW1 : w.alloc (.cells ([.int .u8 0, .int .u8 0, .int .u8 0, .int .u8 0, .int .u8 0, .int .u8 0, .int .u8 0, .int .u8 0, .int .u8 0, .int .u8 0, .int .u8 0, .int .u8 0, .int .u8 0, .int .u8 0, .int .u8 0, .int .u8 0, .int .i64 0] : List Value).toArray 26) = W1 at hB1 hr1 h'
  have HN : Hid _ := next_calls L num beh x ws W1 h'
  have hW1' : w.alloc (.cells #[.int .u8 0, .int .u8 0, .int .u8 0, .int .u8 0, .int .u8 0, .int .u8 0, .int .u8 0, .int .u8 0, .int .u8 0, .int .u8 0, .int .u8 0, .int .u8 0, .int .u8 0, .int .u8 0, .int .u8 0, .int .u8 0, .int .i64 0] 26) = W1 := hW1
  clear h h' hW1
  obtain ⟨s, c⟩ := x
  go_enter Tryz.func124, Tryz.ntmps124
  go_wp2_with fail
  refine Calls.mono HN.out ?_
  rintro e w2 ⟨rfl, hL, hG⟩
  clear HN hW1'
  have hr2 := (hG.block w.heap.size (Array.getElem?_eq_some_iff.1 hr1).1 (fun e => by cases e; omega)).trans hr1
  have HL2 : Hid _ := hL
  have hG2 : w.grownBy w2 (some L) := Gr.trans (Gr.of_below hB1 _) hG
  have lr2 := (Array.getElem?_eq_some_iff.1 hr2).1
  have lL2 := LineAt.lt hL
  clear hL hG hr1 hB1
  unfold WdV
  go_wp2_with fail
  refine Calls.mono (HP.out _) ?_
  rintro e w4 ⟨rfl, hB4⟩
  have hB2 : Below w2.heap.size w2 w4 := ((Below.refl _ w2).alloc (Nat.le_refl _) _).trans (hB4.mono (by simp))
  have hr4 := (hB2.block _ lr2).trans hr2
  have HL4 : Hid _ := LineAt.below HL2.out hB2
  have hG4 : w.grownBy w4 (some L) := Gr.trans hG2 (Gr.of_below hB2 _)
  have lL4 := LineAt.lt HL4.out
  obtain ⟨w5, hst, hb5, hB5⟩ := box_new (ty := 26) (n := 17) (fun w => by kernel_rfl) w4 [.int .u8 0, .int .u8 0, .int .u8 0, .int .u8 0, .int .u8 0, .int .u8 0, .int .u8 0, .int .u8 0, .int .u8 0, .int .u8 0, .int .u8 0, .int .u8 0, .int .u8 0, .int .u8 0, .int .u8 0, .int .u8 0, .int .i64 0] rfl V hV h1
  have HST : Hid _ := hst
  have hr5 := (hB5.block _ (Array.getElem?_eq_some_iff.1 hr4).1).trans hr4
  have HLD : Hid _ := agg_load (t := 26) (n := 17) (fun w => by kernel_rfl) (fun w => by kernel_rfl) hV (CellsAt.blk hb5)
  obtain ⟨w6, hst6, hb6, ho6⟩ := box_store (ty := 26) (n := 17) (fun w => by kernel_rfl) hr5 rfl V hV h1
  have HST6 : Hid _ := hst6
  have HRES : Hid _ := agg_loadVar (t := 26) (n := 17) (fun w => by kernel_rfl) (fun w => by kernel_rfl) hV (CellsAt.blk hb6)
  clear hst hst6 hr2 hr4 hB4 HL2 HP
  go_wp2_with first
    | ((with_reducible show wpList _ _ _ _ _ _); refine armS (.tmp 6) (.tmp 16) 26 rfl rfl rfl rfl HST.out ?_)
    | ((with_reducible show wpList _ _ _ _ _ _); refine armL (.tmp 6) 26 rfl rfl rfl HLD.out ?_)
    | ((with_reducible show wpList _ _ _ _ _ _); refine armS (.tmp 4) (.tmp 25) 26 rfl rfl rfl rfl HST6.out ?_)
  refine bodyPost_ret (res1c Tryz.results124 (R := ⟨w.heap.size, 0, none⟩) rfl HRES.out) rfl ?_
  rw [← HQ.out]
  have hL5 := LineAt.below HL4.out hB5
  have hne : w.heap.size ≠ L := by omega
  obtain ⟨v, k1, k2⟩ := hL5
  have hL6 : LineAt w6 L num ws beh := by
    refine ⟨v, (ho6.other L (fun e => hne e.symm)).trans k1, k2.keep fun g cs hg => ho6.other g (fun e => ?_)⟩
    rw [e, hr5] at hg
    cases hg
  have hsz : w4.heap.size ≤ w5.heap.size := hB5.size
  refine ⟨rfl, hL6, ?_⟩
  have hG5 := Gr.trans hG4 (Gr.of_below hB5 _)
  exact ⟨ho6.os.trans hG5.os, ho6.tape.trans hG5.tape, ho6.output.trans hG5.output, Nat.le_trans hG5.size (Nat.le_of_eq ho6.size.symm), fun k hk hn => (ho6.other k (by omega)).trans (hG5.block k hk hn)⟩


set_option maxRecDepth 100000 in
set_option maxHeartbeats 2000000 in
theorem thing_Prefix4 (L : Nat) (num beh : Int) (x : ByteArray × Int) (ws : List (ByteArray × Int)) (w : World) (h : LineAt w L num (x :: ws) beh) (V : List Value) (hV : V.length = 5) (h1 : ∀ v ∈ V, v.oneCell' = true)
    (hp : ∀ W, Calls Tryz.prog 157 #[.string x.1] W fun e w' => e = .returned (.tuple #[.agg V.toArray, .int .i64 0, .int .i64 0]) ∧ Below W.heap.size W w') :
    Calls Tryz.prog 156 #[.pointer (some ⟨L, 0, none⟩), .func (.func 157) #[] #[]] w fun e w' => LinePost (.agg V.toArray) L num ws beh w e w' := by
  generalize hQ : (fun e w' => LinePost (.agg V.toArray) L num ws beh w e w') = Q
  have HQ : Hid _ := hQ
  clear hQ
  have HP : Hid _ := hp
  clear hp
  have hB1 := (Below.refl w.heap.size w).alloc (Nat.le_refl _) (.cells ([.int .u8 0, .int .u8 0, .int .u8 0, .int .u8 0, .int .i64 0] : List Value).toArray 63)
  have hr1 := blk_new w (.cells ([.int .u8 0, .int .u8 0, .int .u8 0, .int .u8 0, .int .i64 0] : List Value).toArray 63)
  have lL := h.lt
  have h' := h.below hB1
  generalize hW1 : w.alloc (.cells ([.int .u8 0, .int .u8 0, .int .u8 0, .int .u8 0, .int .i64 0] : List Value).toArray 63) = W1 at hB1 hr1 h'
  have HN : Hid _ := next_calls L num beh x ws W1 h'
  have hW1' : w.alloc (.cells #[.int .u8 0, .int .u8 0, .int .u8 0, .int .u8 0, .int .i64 0] 63) = W1 := hW1
  clear h h' hW1
  obtain ⟨s, c⟩ := x
  go_enter Tryz.func156, Tryz.ntmps156
  go_wp2_with fail
  refine Calls.mono HN.out ?_
  rintro e w2 ⟨rfl, hL, hG⟩
  clear HN hW1'
  have hr2 := (hG.block w.heap.size (Array.getElem?_eq_some_iff.1 hr1).1 (fun e => by cases e; omega)).trans hr1
  have HL2 : Hid _ := hL
  have hG2 : w.grownBy w2 (some L) := Gr.trans (Gr.of_below hB1 _) hG
  have lr2 := (Array.getElem?_eq_some_iff.1 hr2).1
  have lL2 := LineAt.lt hL
  clear hL hG hr1 hB1
  unfold WdV
  go_wp2_with fail
  refine Calls.mono (HP.out _) ?_
  rintro e w4 ⟨rfl, hB4⟩
  have hB2 : Below w2.heap.size w2 w4 := ((Below.refl _ w2).alloc (Nat.le_refl _) _).trans (hB4.mono (by simp))
  have hr4 := (hB2.block _ lr2).trans hr2
  have HL4 : Hid _ := LineAt.below HL2.out hB2
  have hG4 : w.grownBy w4 (some L) := Gr.trans hG2 (Gr.of_below hB2 _)
  have lL4 := LineAt.lt HL4.out
  obtain ⟨w5, hst, hb5, hB5⟩ := box_new (ty := 63) (n := 5) (fun w => by kernel_rfl) w4 [.int .u8 0, .int .u8 0, .int .u8 0, .int .u8 0, .int .i64 0] rfl V hV h1
  have HST : Hid _ := hst
  have hr5 := (hB5.block _ (Array.getElem?_eq_some_iff.1 hr4).1).trans hr4
  have HLD : Hid _ := agg_load (t := 63) (n := 5) (fun w => by kernel_rfl) (fun w => by kernel_rfl) hV (CellsAt.blk hb5)
  obtain ⟨w6, hst6, hb6, ho6⟩ := box_store (ty := 63) (n := 5) (fun w => by kernel_rfl) hr5 rfl V hV h1
  have HST6 : Hid _ := hst6
  have HRES : Hid _ := agg_loadVar (t := 63) (n := 5) (fun w => by kernel_rfl) (fun w => by kernel_rfl) hV (CellsAt.blk hb6)
  clear hst hst6 hr2 hr4 hB4 HL2 HP
  go_wp2_with first
    | ((with_reducible show wpList _ _ _ _ _ _); refine armS (.tmp 6) (.tmp 16) 63 rfl rfl rfl rfl HST.out ?_)
    | ((with_reducible show wpList _ _ _ _ _ _); refine armL (.tmp 6) 63 rfl rfl rfl HLD.out ?_)
    | ((with_reducible show wpList _ _ _ _ _ _); refine armS (.tmp 4) (.tmp 25) 63 rfl rfl rfl rfl HST6.out ?_)
  refine bodyPost_ret (res1c Tryz.results156 (R := ⟨w.heap.size, 0, none⟩) rfl HRES.out) rfl ?_
  rw [← HQ.out]
  have hL5 := LineAt.below HL4.out hB5
  have hne : w.heap.size ≠ L := by omega
  obtain ⟨v, k1, k2⟩ := hL5
  have hL6 : LineAt w6 L num ws beh := by
    refine ⟨v, (ho6.other L (fun e => hne e.symm)).trans k1, k2.keep fun g cs hg => ho6.other g (fun e => ?_)⟩
    rw [e, hr5] at hg
    cases hg
  have hsz : w4.heap.size ≤ w5.heap.size := hB5.size
  refine ⟨rfl, hL6, ?_⟩
  have hG5 := Gr.trans hG4 (Gr.of_below hB5 _)
  exact ⟨ho6.os.trans hG5.os, ho6.tape.trans hG5.tape, ho6.output.trans hG5.output, Nat.le_trans hG5.size (Nat.le_of_eq ho6.size.symm), fun k hk hn => (ho6.other k (by omega)).trans (hG5.block k hk hn)⟩


end Go.Proofs.YtaebknkjhhcneaaGreatDoor
