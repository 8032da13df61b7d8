/-
  Faulty prefixes, New, Fours and Sixes of the document's table.
  Tables of both sides by their entries.
-/
import Derived.Test.YtenahbdopgmpfaaFold33
import Derived.Test.YtenahbdopgmpfaaTg4
import Derived.Test.YtenahbdopgmpfaaFold34
import Derived.Test.YtenahbdopgmpfaaFold35
namespace Go.Proofs.Ytenahbdopgmpfaa
open Go Go.RowKit Go.Shelf
set_option linter.unusedVariables false
set_option linter.unusedSimpArgs false

theorem eqIT (d : Nat) (n : Int) (W : World) : (Op.equalIn (d + 2) 3 (.int .i64 n) (.int .i64 n)).run Try.prog W = .ok true W := by simp [Op.equalIn, go_sem]
set_option maxHeartbeats 1000000 in
set_option maxRecDepth 100000 in
theorem RGet4_bad {W : World} {b : Nat} (c : List Value) (hc : c.length = 5) (hck : ∀ X : World, Calls Try.prog 48 #[.agg c.toArray] X fun e w' => e = .returned (.int .i64 22) ∧ Below X.heap.size X w') :
    Calls Try.prog 23 #[.pointer (some ⟨b, 0, none⟩), .agg c.toArray] W fun e w' => e = .returned (.tuple #[.int .i64 0, .bool false, .int .i64 22]) ∧ Below W.heap.size W w' := by
  generalize hQ : (fun (e : Ending) (w' : World) => e = .returned (.tuple #[.int .i64 0, .bool false, .int .i64 22]) ∧ Below W.heap.size W w') = Q
  have HQ : Hid (∀ e w', (e = .returned (.tuple #[.int .i64 0, .bool false, .int .i64 22]) ∧ Below W.heap.size W w') → Q e w') := fun e w' hh => by rw [← hQ]; exact hh
  clear hQ
  have HB : Hid _ := (Below.refl W.heap.size W).alloc (Nat.le_refl _) (.cells c.toArray 35)
  have HC : Hid _ := hck (W.alloc (.cells c.toArray 35))
  have HL : Hid _ := agg_load (t := 35) (n := 5) (fun w => by kernel_rfl) (fun w => by kernel_rfl) hc (CellsAt.of_blk (blk_new W (.cells c.toArray 35)))
  clear hc hck
  go_enter Try.func23, Try.ntmps23
  go_wp2_with first
    | ((with_reducible show wpList _ _ _ ({ dst := _, op := Op.load 35 (Operand.tmp 3), type := _, pos := _, after := _, guard := _ } :: _) _ _); refine armLv (.tmp 3) 35 rfl rfl rfl HL.out ?_)
  refine Calls.mono HC.out ?_
  rintro e w1 ⟨rfl, hb1⟩
  have HK : Hid _ := HB.out.trans (hb1.mono HB.out.size)
  clear hb1 HC HL
  go_wp2
  try go_ret2
  exact HQ.out _ _ ⟨rfl, HK.out⟩
set_option maxHeartbeats 1000000 in
set_option maxRecDepth 100000 in
theorem RPut4_bad {W : World} {b : Nat} (c : List Value) (hc : c.length = 5) (hck : ∀ X : World, Calls Try.prog 48 #[.agg c.toArray] X fun e w' => e = .returned (.int .i64 22) ∧ Below X.heap.size X w') (v : Int) :
    Calls Try.prog 31 #[.pointer (some ⟨b, 0, none⟩), .agg c.toArray, .int .i64 v] W fun e w' => e = .returned (.tuple #[.bool false, .int .i64 22]) ∧ Below W.heap.size W w' := by
  generalize hQ : (fun (e : Ending) (w' : World) => e = .returned (.tuple #[.bool false, .int .i64 22]) ∧ Below W.heap.size W w') = Q
  have HQ : Hid (∀ e w', (e = .returned (.tuple #[.bool false, .int .i64 22]) ∧ Below W.heap.size W w') → Q e w') := fun e w' hh => by rw [← hQ]; exact hh
  clear hQ
  have HB : Hid _ := (Below.refl W.heap.size W).alloc (Nat.le_refl _) (.cells c.toArray 35)
  have HC : Hid _ := hck (W.alloc (.cells c.toArray 35))
  have HL : Hid _ := agg_load (t := 35) (n := 5) (fun w => by kernel_rfl) (fun w => by kernel_rfl) hc (CellsAt.of_blk (blk_new W (.cells c.toArray 35)))
  clear hc hck
  go_enter Try.func31, Try.ntmps31
  go_wp2_with first
    | ((with_reducible show wpList _ _ _ ({ dst := _, op := Op.load 35 (Operand.tmp 4), type := _, pos := _, after := _, guard := _ } :: _) _ _); refine armLv (.tmp 4) 35 rfl rfl rfl HL.out ?_)
  refine Calls.mono HC.out ?_
  rintro e w1 ⟨rfl, hb1⟩
  have HK : Hid _ := HB.out.trans (hb1.mono HB.out.size)
  clear hb1 HC HL
  go_wp2
  try go_ret2
  exact HQ.out _ _ ⟨rfl, HK.out⟩
set_option maxHeartbeats 1000000 in
set_option maxRecDepth 100000 in
theorem RDel4_bad {W : World} {b : Nat} (c : List Value) (hc : c.length = 5) (hck : ∀ X : World, Calls Try.prog 48 #[.agg c.toArray] X fun e w' => e = .returned (.int .i64 22) ∧ Below X.heap.size X w') :
    Calls Try.prog 33 #[.pointer (some ⟨b, 0, none⟩), .agg c.toArray] W fun e w' => e = .returned (.int .i64 22) ∧ Below W.heap.size W w' := by
  generalize hQ : (fun (e : Ending) (w' : World) => e = .returned (.int .i64 22) ∧ Below W.heap.size W w') = Q
  have HQ : Hid (∀ e w', (e = .returned (.int .i64 22) ∧ Below W.heap.size W w') → Q e w') := fun e w' hh => by rw [← hQ]; exact hh
  clear hQ
  have HB : Hid _ := (Below.refl W.heap.size W).alloc (Nat.le_refl _) (.cells c.toArray 35)
  have HC : Hid _ := RGet4_bad (W := W.alloc (.cells c.toArray 35)) (b := b) c hc hck
  have HL : Hid _ := agg_load (t := 35) (n := 5) (fun w => by kernel_rfl) (fun w => by kernel_rfl) hc (CellsAt.of_blk (blk_new W (.cells c.toArray 35)))
  clear hc hck
  go_enter Try.func33, Try.ntmps33
  go_wp2_with first
    | ((with_reducible show wpList _ _ _ ({ dst := _, op := Op.load 35 (Operand.tmp 3), type := _, pos := _, after := _, guard := _ } :: _) _ _); refine armLv (.tmp 3) 35 rfl rfl rfl HL.out ?_)
  refine Calls.mono HC.out ?_
  rintro e w1 ⟨rfl, hb1⟩
  have HK : Hid _ := HB.out.trans (hb1.mono HB.out.size)
  clear hb1 HC HL
  go_wp2
  try go_ret2
  exact HQ.out _ _ ⟨rfl, HK.out⟩
set_option maxHeartbeats 1000000 in
set_option maxRecDepth 100000 in
theorem RUnder4_bad {W : World} {b : Nat} (c : List Value) (hc : c.length = 5) (hck : ∀ X : World, Calls Try.prog 48 #[.agg c.toArray] X fun e w' => e = .returned (.int .i64 22) ∧ Below X.heap.size X w') :
    Calls Try.prog 37 #[.pointer (some ⟨b, 0, none⟩), .agg c.toArray] W fun e w' => e = .returned (.tuple #[.slice none 0 0, .int .i64 22]) ∧ Below W.heap.size W w' := by
  generalize hQ : (fun (e : Ending) (w' : World) => e = .returned (.tuple #[.slice none 0 0, .int .i64 22]) ∧ Below W.heap.size W w') = Q
  have HQ : Hid (∀ e w', (e = .returned (.tuple #[.slice none 0 0, .int .i64 22]) ∧ Below W.heap.size W w') → Q e w') := fun e w' hh => by rw [← hQ]; exact hh
  clear hQ
  have HB : Hid _ := (Below.refl W.heap.size W).alloc (Nat.le_refl _) (.cells c.toArray 35)
  have HC : Hid _ := hck (W.alloc (.cells c.toArray 35))
  have HL : Hid _ := agg_load (t := 35) (n := 5) (fun w => by kernel_rfl) (fun w => by kernel_rfl) hc (CellsAt.of_blk (blk_new W (.cells c.toArray 35)))
  clear hc hck
  go_enter Try.func37, Try.ntmps37
  go_wp2_with first
    | ((with_reducible show wpList _ _ _ ({ dst := _, op := Op.load 35 (Operand.tmp 3), type := _, pos := _, after := _, guard := _ } :: _) _ _); refine armLv (.tmp 3) 35 rfl rfl rfl HL.out ?_)
  refine Calls.mono HC.out ?_
  rintro e w1 ⟨rfl, hb1⟩
  have HK : Hid _ := HB.out.trans (hb1.mono HB.out.size)
  clear hb1 HC HL
  go_wp2
  try go_ret2
  exact HQ.out _ _ ⟨rfl, HK.out⟩
set_option maxHeartbeats 1000000 in
set_option maxRecDepth 100000 in
theorem ROver4_bad {W : World} {b : Nat} (c : List Value) (hc : c.length = 5) (hck : ∀ X : World, Calls Try.prog 48 #[.agg c.toArray] X fun e w' => e = .returned (.int .i64 22) ∧ Below X.heap.size X w') :
    Calls Try.prog 38 #[.pointer (some ⟨b, 0, none⟩), .agg c.toArray] W fun e w' => e = .returned (.tuple #[.slice none 0 0, .int .i64 22]) ∧ Below W.heap.size W w' := by
  generalize hQ : (fun (e : Ending) (w' : World) => e = .returned (.tuple #[.slice none 0 0, .int .i64 22]) ∧ Below W.heap.size W w') = Q
  have HQ : Hid (∀ e w', (e = .returned (.tuple #[.slice none 0 0, .int .i64 22]) ∧ Below W.heap.size W w') → Q e w') := fun e w' hh => by rw [← hQ]; exact hh
  clear hQ
  have HB : Hid _ := (Below.refl W.heap.size W).alloc (Nat.le_refl _) (.cells c.toArray 35)
  have HC : Hid _ := hck (W.alloc (.cells c.toArray 35))
  have HL : Hid _ := agg_load (t := 35) (n := 5) (fun w => by kernel_rfl) (fun w => by kernel_rfl) hc (CellsAt.of_blk (blk_new W (.cells c.toArray 35)))
  clear hc hck
  go_enter Try.func38, Try.ntmps38
  go_wp2_with first
    | ((with_reducible show wpList _ _ _ ({ dst := _, op := Op.load 35 (Operand.tmp 3), type := _, pos := _, after := _, guard := _ } :: _) _ _); refine armLv (.tmp 3) 35 rfl rfl rfl HL.out ?_)
  refine Calls.mono HC.out ?_
  rintro e w1 ⟨rfl, hb1⟩
  have HK : Hid _ := HB.out.trans (hb1.mono HB.out.size)
  clear hb1 HC HL
  go_wp2
  try go_ret2
  exact HQ.out _ _ ⟨rfl, HK.out⟩
set_option maxHeartbeats 1000000 in
set_option maxRecDepth 100000 in
theorem eqE4 (e : Ent) (w : World) : (Op.equalIn 10000 47 (.agg (ec4 e).toArray) (.agg (ec4 e).toArray)).run Try.prog w = .ok true w := by
  have h1 : ∀ W : World, (Op.equalIn 9999 35 (PK4 e.1) (PK4 e.1)).run Try.prog W = .ok true W := fun W => by
    have := eqP4T 9996 (bytN 4 e.1) (bytN 4 e.1) e.1.length e.1.length (bytN_fit _ _) (bytN_fit _ _) (bytN_length _ _) (bytN_length _ _) W
    rw [decide_eq_true rfl, beq_self_eq_true] at this
    exact this
  have h2 : ∀ W : World, (Op.equalIn 9999 3 (.int .i64 e.2) (.int .i64 e.2)).run Try.prog W = .ok true W := fun W => eqIT 9997 e.2 W
  have p1 : (ec4 e).toArray.extract 0 5 = (cp6 (bytN 4 e.1) e.1.length).toArray := by
    have hx : ∀ (L : List Value) (v : Value), L.length = 5 → (L ++ [v]).toArray.extract 0 5 = L.toArray := fun L v hl => by
      apply Array.ext'
      simp [hl]
    rw [ec4_eq]
    exact hx _ _ (cpN_length _ _ _)
  have p2 : (ec4 e).toArray[5]? = some (Value.int .i64 e.2) := by
    have := ec4_v e
    simpa using this
  unfold PK4 at h1
  generalize (ec4 e).toArray = x at *
  generalize (cp6 (bytN 4 e.1) e.1.length).toArray = y at *
  have hstd : Try.prog.stoodInHeld 47 = false := by kernel_rfl
  show (Op.equalIn (9999 + 1) _ _ _).run Try.prog w = _
  rw [Op.equalIn]
  generalize Op.equalIn 9999 = E at *
  simp [go_sem, hstd, p1, p2, h1, h2]
theorem eqlE4 (e : Ent) (w : World) : (binOp .eql 47 (.agg (ec4 e).toArray) (.agg (ec4 e).toArray)).run Try.prog w = .ok (.bool true) w := by
  have := eqE4 e w
  simp only [binOp, Op.equal, Op.maxDepth]
  simp [this]
theorem neqE4 (e : Ent) (w : World) : (binOp .neq 47 (.agg (ec4 e).toArray) (.agg (ec4 e).toArray)).run Try.prog w = .ok (.bool false) w := by
  have := eqE4 e w
  simp only [binOp, Op.equal, Op.maxDepth]
  simp [this]
theorem gdE4 (b : BinOp) (x y : Operand) (u v : Array Value) (w : World) : (eqGuard b 47 x y (.agg u) (.agg v)).run Try.prog w = .ok () w := by
  have he : Try.prog.eqGuardType Try.prog.depth 47 = false := by kernel_rfl
  cases b <;> simp [eqGuard, go_sem, he]
set_option maxHeartbeats 4000000 in
set_option maxRecDepth 100000 in
theorem RFours_same {W : World} {ba bb : Nat} {va vb : Value} {l : List Ent} (ha : W.ownsRow ba 47 6 va l.length (l.flatMap ec4)) (hb : W.ownsRow bb 47 6 vb l.length (l.flatMap ec4)) (hlen : l.length ≤ 200000) :
    Calls Try.prog 39 #[va, vb] W fun e w' => e = .returned (.bool true) ∧ Below W.heap.size W w' := by
  generalize hQ : (fun (e : Ending) (w' : World) => e = .returned (.bool true) ∧ Below W.heap.size W w') = Q
  have HQ : Hid (∀ e w', (e = .returned (.bool true) ∧ Below W.heap.size W w') → Q e w') := fun e w' hh => by rw [← hQ]; exact hh
  clear hQ
  obtain ⟨a1, c1, e1⟩ := own_slcT ha
  obtain ⟨a2, c2, e2⟩ := own_slcT hb
  subst e1
  subst e2
  have HA : Hid _ := ha
  have HBB : Hid _ := hb
  clear ha hb
  go_enter Try.func39, Try.ntmps39
  go_wp2
  go_loopw [5] (fun i wr => ∃ n : Nat, n ≤ l.length ∧ i = .int .i64 n ∧ Below W.heap.size W wr) (fun i _ => l.length - (intOf i).toNat)
  case atStart => exact ⟨0, Nat.zero_le _, rfl, Below.refl _ _⟩
  case round =>
    obtain ⟨n, hn, rfl, hBk⟩ := hrel
    have HBK : Hid (Below W.heap.size W wr) := hBk
    by_cases hlt : n < l.length
    · obtain ⟨e0, he0⟩ : ∃ e0, l[n]? = some e0 := ⟨_, List.getElem?_eq_getElem hlt⟩
      obtain ⟨g1, c1', h1, hg1, _, hx1⟩ := own_atT ec4_len (own_sameT (w' := wr) HA.out (fun q hq => hBk.block q (own_ltT HA.out hq).2)) he0
      obtain ⟨g2, c2', h2, hg2, _, hx2⟩ := own_atT ec4_len (own_sameT (w' := wr) HBB.out (fun q hq => hBk.block q (own_ltT HBB.out hq).2)) he0
      obtain ⟨rfl, rfl⟩ : a1 = some ⟨g1, 0, none⟩ ∧ c1 = c1' := by injection h1 with h1 _ h3; exact ⟨h1, h3⟩
      obtain ⟨rfl, rfl⟩ : a2 = some ⟨g2, 0, none⟩ ∧ c2 = c2' := by injection h2 with h1 _ h3; exact ⟨h1, h3⟩
      have HL1 : Hid (∀ x : Hi wr, (Instr.loadAt 47 (.pointer (some ⟨g1, n * 6, none⟩))).run Try.prog x.W = .ok (.agg (ec4 e0).toArray) x.W) := fun x => ld_en4 (fun i u hi => (x.below.cell (p := ⟨g1, _, none⟩) hg1).trans (hx1 i u hi))
      have HL2 : Hid (∀ x : Hi wr, (Instr.loadAt 47 (.pointer (some ⟨g2, n * 6, none⟩))).run Try.prog x.W = .ok (.agg (ec4 e0).toArray) x.W) := fun x => ld_en4 (fun i u hi => (x.below.cell (p := ⟨g2, _, none⟩) hg2).trans (hx2 i u hi))
      have HNQ : Hid (∀ X : World, (binOp .neq 47 (.agg (ec4 e0).toArray) (.agg (ec4 e0).toArray)).run Try.prog X = .ok (.bool false) X) := neqE4 e0
      have q1 : decide ((n : Int) < l.length) = true := by simpa using hlt
      have w9 : IntKind.i64.wrap ((n : Int) + 1) = (n : Int) + 1 := wrap_i64 _ ⟨by omega, by omega⟩
      have HN : Hid (n < l.length) := hlt
      clear hx1 hx2 h1 h2 hBk he0
      go_wp2_with fail
      refine wp_region_hi (by kernel_rfl) (by kernel_rfl) ?_
      repeat (first | go_big_quiet_skip | (go_big_quiet_want; refine hi_load (.tmp 19) 47 rfl rfl HL1.out ?_; simp only [Act.put, List.setIfInBounds_toArray, List.set_cons_zero, List.set_cons_succ]; go_big_quiet_on) | (go_big_quiet_want; refine hi_load (.tmp 23) 47 rfl rfl HL2.out ?_; simp only [Act.put, List.setIfInBounds_toArray, List.set_cons_zero, List.set_cons_succ]; go_big_quiet_on) | (go_big_quiet_want; refine hi_binT .neq 47 47 (.tmp 20) (.tmp 24) rfl rfl rfl (fun W => (gdE4 _ _ _ _ _ W)) HNQ.out ?_; simp only [Act.put, List.setIfInBounds_toArray, List.set_cons_zero, List.set_cons_succ]; go_big_quiet_on) | (go_big_quiet_want; go_big_quiet_op; first | go_big_quiet_on | go_big_quiet_call (fail)))
      refine wpQuiet_nil ?_
      intro _ hw
      obtain ⟨yy, rfl⟩ := hw
      go_wp2
      go_roundw
      case rel => exact ⟨n + 1, HN.out, rfl, HBK.out.trans (yy.below.mono HBK.out.size)⟩
      case measure => show l.length - (n + 1) < l.length - n; have := HN.out; omega
    · obtain rfl : n = l.length := by omega
      clear hBk
      go_wp2
      try go_ret2
      exact HQ.out _ _ ⟨rfl, HBK.out⟩
set_option maxHeartbeats 1000000 in
set_option maxRecDepth 100000 in
theorem RGet6_bad {W : World} {b : Nat} (c : List Value) (hc : c.length = 17) (hck : ∀ X : World, Calls Try.prog 50 #[.agg c.toArray] X fun e w' => e = .returned (.int .i64 22) ∧ Below X.heap.size X w') :
    Calls Try.prog 25 #[.pointer (some ⟨b, 0, none⟩), .agg c.toArray] W fun e w' => e = .returned (.tuple #[.int .i64 0, .bool false, .int .i64 22]) ∧ Below W.heap.size W w' := by
  generalize hQ : (fun (e : Ending) (w' : World) => e = .returned (.tuple #[.int .i64 0, .bool false, .int .i64 22]) ∧ Below W.heap.size W w') = Q
  have HQ : Hid (∀ e w', (e = .returned (.tuple #[.int .i64 0, .bool false, .int .i64 22]) ∧ Below W.heap.size W w') → Q e w') := fun e w' hh => by rw [← hQ]; exact hh
  clear hQ
  have HB : Hid _ := (Below.refl W.heap.size W).alloc (Nat.le_refl _) (.cells c.toArray 39)
  have HC : Hid _ := hck (W.alloc (.cells c.toArray 39))
  have HL : Hid _ := agg_load (t := 39) (n := 17) (fun w => by kernel_rfl) (fun w => by kernel_rfl) hc (CellsAt.of_blk (blk_new W (.cells c.toArray 39)))
  clear hc hck
  go_enter Try.func25, Try.ntmps25
  go_wp2_with first
    | ((with_reducible show wpList _ _ _ ({ dst := _, op := Op.load 39 (Operand.tmp 3), type := _, pos := _, after := _, guard := _ } :: _) _ _); refine armLv (.tmp 3) 39 rfl rfl rfl HL.out ?_)
  refine Calls.mono HC.out ?_
  rintro e w1 ⟨rfl, hb1⟩
  have HK : Hid _ := HB.out.trans (hb1.mono HB.out.size)
  clear hb1 HC HL
  go_wp2
  try go_ret2
  exact HQ.out _ _ ⟨rfl, HK.out⟩
set_option maxHeartbeats 1000000 in
set_option maxRecDepth 100000 in
theorem RPut6_bad {W : World} {b : Nat} (c : List Value) (hc : c.length = 17) (hck : ∀ X : World, Calls Try.prog 50 #[.agg c.toArray] X fun e w' => e = .returned (.int .i64 22) ∧ Below X.heap.size X w') (v : Int) :
    Calls Try.prog 32 #[.pointer (some ⟨b, 0, none⟩), .agg c.toArray, .int .i64 v] W fun e w' => e = .returned (.tuple #[.bool false, .int .i64 22]) ∧ Below W.heap.size W w' := by
  generalize hQ : (fun (e : Ending) (w' : World) => e = .returned (.tuple #[.bool false, .int .i64 22]) ∧ Below W.heap.size W w') = Q
  have HQ : Hid (∀ e w', (e = .returned (.tuple #[.bool false, .int .i64 22]) ∧ Below W.heap.size W w') → Q e w') := fun e w' hh => by rw [← hQ]; exact hh
  clear hQ
  have HB : Hid _ := (Below.refl W.heap.size W).alloc (Nat.le_refl _) (.cells c.toArray 39)
  have HC : Hid _ := hck (W.alloc (.cells c.toArray 39))
  have HL : Hid _ := agg_load (t := 39) (n := 17) (fun w => by kernel_rfl) (fun w => by kernel_rfl) hc (CellsAt.of_blk (blk_new W (.cells c.toArray 39)))
  clear hc hck
  go_enter Try.func32, Try.ntmps32
  go_wp2_with first
    | ((with_reducible show wpList _ _ _ ({ dst := _, op := Op.load 39 (Operand.tmp 4), type := _, pos := _, after := _, guard := _ } :: _) _ _); refine armLv (.tmp 4) 39 rfl rfl rfl HL.out ?_)
  refine Calls.mono HC.out ?_
  rintro e w1 ⟨rfl, hb1⟩
  have HK : Hid _ := HB.out.trans (hb1.mono HB.out.size)
  clear hb1 HC HL
  go_wp2
  try go_ret2
  exact HQ.out _ _ ⟨rfl, HK.out⟩
set_option maxHeartbeats 1000000 in
set_option maxRecDepth 100000 in
theorem RDel6_bad {W : World} {b : Nat} (c : List Value) (hc : c.length = 17) (hck : ∀ X : World, Calls Try.prog 50 #[.agg c.toArray] X fun e w' => e = .returned (.int .i64 22) ∧ Below X.heap.size X w') :
    Calls Try.prog 34 #[.pointer (some ⟨b, 0, none⟩), .agg c.toArray] W fun e w' => e = .returned (.int .i64 22) ∧ Below W.heap.size W w' := by
  generalize hQ : (fun (e : Ending) (w' : World) => e = .returned (.int .i64 22) ∧ Below W.heap.size W w') = Q
  have HQ : Hid (∀ e w', (e = .returned (.int .i64 22) ∧ Below W.heap.size W w') → Q e w') := fun e w' hh => by rw [← hQ]; exact hh
  clear hQ
  have HB : Hid _ := (Below.refl W.heap.size W).alloc (Nat.le_refl _) (.cells c.toArray 39)
  have HC : Hid _ := RGet6_bad (W := W.alloc (.cells c.toArray 39)) (b := b) c hc hck
  have HL : Hid _ := agg_load (t := 39) (n := 17) (fun w => by kernel_rfl) (fun w => by kernel_rfl) hc (CellsAt.of_blk (blk_new W (.cells c.toArray 39)))
  clear hc hck
  go_enter Try.func34, Try.ntmps34
  go_wp2_with first
    | ((with_reducible show wpList _ _ _ ({ dst := _, op := Op.load 39 (Operand.tmp 3), type := _, pos := _, after := _, guard := _ } :: _) _ _); refine armLv (.tmp 3) 39 rfl rfl rfl HL.out ?_)
  refine Calls.mono HC.out ?_
  rintro e w1 ⟨rfl, hb1⟩
  have HK : Hid _ := HB.out.trans (hb1.mono HB.out.size)
  clear hb1 HC HL
  go_wp2
  try go_ret2
  exact HQ.out _ _ ⟨rfl, HK.out⟩
set_option maxHeartbeats 1000000 in
set_option maxRecDepth 100000 in
theorem eqE6 (e : Ent) (w : World) : (Op.equalIn 10000 51 (.agg (ec6 e).toArray) (.agg (ec6 e).toArray)).run Try.prog w = .ok true w := by
  have h1 : ∀ W : World, (Op.equalIn 9999 39 (PK6 e.1) (PK6 e.1)).run Try.prog W = .ok true W := fun W => by
    have := eqP6 9996 (bytN 16 e.1) (bytN 16 e.1) e.1.length e.1.length (bytN_fit _ _) (bytN_fit _ _) (bytN_length _ _) (bytN_length _ _) W
    rw [decide_eq_true rfl, beq_self_eq_true] at this
    exact this
  have h2 : ∀ W : World, (Op.equalIn 9999 3 (.int .i64 e.2) (.int .i64 e.2)).run Try.prog W = .ok true W := fun W => eqIT 9997 e.2 W
  have p1 : (ec6 e).toArray.extract 0 17 = (cp6 (bytN 16 e.1) e.1.length).toArray := by
    have hx : ∀ (L : List Value) (v : Value), L.length = 17 → (L ++ [v]).toArray.extract 0 17 = L.toArray := fun L v hl => by
      apply Array.ext'
      simp [hl]
    rw [ec6_eq]
    exact hx _ _ (cpN_length _ _ _)
  have p2 : (ec6 e).toArray[17]? = some (Value.int .i64 e.2) := by
    have := ec6_v e
    simpa using this
  unfold PK6 at h1
  generalize (ec6 e).toArray = x at *
  generalize (cp6 (bytN 16 e.1) e.1.length).toArray = y at *
  have hstd : Try.prog.stoodInHeld 51 = false := by kernel_rfl
  show (Op.equalIn (9999 + 1) _ _ _).run Try.prog w = _
  rw [Op.equalIn]
  generalize Op.equalIn 9999 = E at *
  simp [go_sem, hstd, p1, p2, h1, h2]
theorem eqlE6 (e : Ent) (w : World) : (binOp .eql 51 (.agg (ec6 e).toArray) (.agg (ec6 e).toArray)).run Try.prog w = .ok (.bool true) w := by
  have := eqE6 e w
  simp only [binOp, Op.equal, Op.maxDepth]
  simp [this]
theorem neqE6 (e : Ent) (w : World) : (binOp .neq 51 (.agg (ec6 e).toArray) (.agg (ec6 e).toArray)).run Try.prog w = .ok (.bool false) w := by
  have := eqE6 e w
  simp only [binOp, Op.equal, Op.maxDepth]
  simp [this]
theorem gdE6 (b : BinOp) (x y : Operand) (u v : Array Value) (w : World) : (eqGuard b 51 x y (.agg u) (.agg v)).run Try.prog w = .ok () w := by
  have he : Try.prog.eqGuardType Try.prog.depth 51 = false := by kernel_rfl
  cases b <;> simp [eqGuard, go_sem, he]
set_option maxHeartbeats 4000000 in
set_option maxRecDepth 100000 in
theorem RSixes_same {W : World} {ba bb : Nat} {va vb : Value} {l : List Ent} (ha : W.ownsRow ba 51 18 va l.length (l.flatMap ec6)) (hb : W.ownsRow bb 51 18 vb l.length (l.flatMap ec6)) (hlen : l.length ≤ 200000) :
    Calls Try.prog 41 #[va, vb] W fun e w' => e = .returned (.bool true) ∧ Below W.heap.size W w' := by
  generalize hQ : (fun (e : Ending) (w' : World) => e = .returned (.bool true) ∧ Below W.heap.size W w') = Q
  have HQ : Hid (∀ e w', (e = .returned (.bool true) ∧ Below W.heap.size W w') → Q e w') := fun e w' hh => by rw [← hQ]; exact hh
  clear hQ
  obtain ⟨a1, c1, e1⟩ := own_slcT ha
  obtain ⟨a2, c2, e2⟩ := own_slcT hb
  subst e1
  subst e2
  have HA : Hid _ := ha
  have HBB : Hid _ := hb
  clear ha hb
  go_enter Try.func41, Try.ntmps41
  go_wp2
  go_loopw [5] (fun i wr => ∃ n : Nat, n ≤ l.length ∧ i = .int .i64 n ∧ Below W.heap.size W wr) (fun i _ => l.length - (intOf i).toNat)
  case atStart => exact ⟨0, Nat.zero_le _, rfl, Below.refl _ _⟩
  case round =>
    obtain ⟨n, hn, rfl, hBk⟩ := hrel
    have HBK : Hid (Below W.heap.size W wr) := hBk
    by_cases hlt : n < l.length
    · obtain ⟨e0, he0⟩ : ∃ e0, l[n]? = some e0 := ⟨_, List.getElem?_eq_getElem hlt⟩
      obtain ⟨g1, c1', h1, hg1, _, hx1⟩ := own_atT ec6_len (own_sameT (w' := wr) HA.out (fun q hq => hBk.block q (own_ltT HA.out hq).2)) he0
      obtain ⟨g2, c2', h2, hg2, _, hx2⟩ := own_atT ec6_len (own_sameT (w' := wr) HBB.out (fun q hq => hBk.block q (own_ltT HBB.out hq).2)) he0
      obtain ⟨rfl, rfl⟩ : a1 = some ⟨g1, 0, none⟩ ∧ c1 = c1' := by injection h1 with h1 _ h3; exact ⟨h1, h3⟩
      obtain ⟨rfl, rfl⟩ : a2 = some ⟨g2, 0, none⟩ ∧ c2 = c2' := by injection h2 with h1 _ h3; exact ⟨h1, h3⟩
      have HL1 : Hid (∀ x : Hi wr, (Instr.loadAt 51 (.pointer (some ⟨g1, n * 18, none⟩))).run Try.prog x.W = .ok (.agg (ec6 e0).toArray) x.W) := fun x => ld_en6 (fun i u hi => (x.below.cell (p := ⟨g1, _, none⟩) hg1).trans (hx1 i u hi))
      have HL2 : Hid (∀ x : Hi wr, (Instr.loadAt 51 (.pointer (some ⟨g2, n * 18, none⟩))).run Try.prog x.W = .ok (.agg (ec6 e0).toArray) x.W) := fun x => ld_en6 (fun i u hi => (x.below.cell (p := ⟨g2, _, none⟩) hg2).trans (hx2 i u hi))
      have HNQ : Hid (∀ X : World, (binOp .neq 51 (.agg (ec6 e0).toArray) (.agg (ec6 e0).toArray)).run Try.prog X = .ok (.bool false) X) := neqE6 e0
      have q1 : decide ((n : Int) < l.length) = true := by simpa using hlt
      have w9 : IntKind.i64.wrap ((n : Int) + 1) = (n : Int) + 1 := wrap_i64 _ ⟨by omega, by omega⟩
      have HN : Hid (n < l.length) := hlt
      clear hx1 hx2 h1 h2 hBk he0
      go_wp2_with fail
      refine wp_region_hi (by kernel_rfl) (by kernel_rfl) ?_
      repeat (first | go_big_quiet_skip | (go_big_quiet_want; refine hi_load (.tmp 19) 51 rfl rfl HL1.out ?_; simp only [Act.put, List.setIfInBounds_toArray, List.set_cons_zero, List.set_cons_succ]; go_big_quiet_on) | (go_big_quiet_want; refine hi_load (.tmp 23) 51 rfl rfl HL2.out ?_; simp only [Act.put, List.setIfInBounds_toArray, List.set_cons_zero, List.set_cons_succ]; go_big_quiet_on) | (go_big_quiet_want; refine hi_binT .neq 51 51 (.tmp 20) (.tmp 24) rfl rfl rfl (fun W => (gdE6 _ _ _ _ _ W)) HNQ.out ?_; simp only [Act.put, List.setIfInBounds_toArray, List.set_cons_zero, List.set_cons_succ]; go_big_quiet_on) | (go_big_quiet_want; go_big_quiet_op; first | go_big_quiet_on | go_big_quiet_call (fail)))
      refine wpQuiet_nil ?_
      intro _ hw
      obtain ⟨yy, rfl⟩ := hw
      go_wp2
      go_roundw
      case rel => exact ⟨n + 1, HN.out, rfl, HBK.out.trans (yy.below.mono HBK.out.size)⟩
      case measure => show l.length - (n + 1) < l.length - n; have := HN.out; omega
    · obtain rfl : n = l.length := by omega
      clear hBk
      go_wp2
      try go_ret2
      exact HQ.out _ _ ⟨rfl, HBK.out⟩
set_option maxHeartbeats 1000000 in
theorem RNew_good (n : Int) (hn : 0 ≤ n ∧ n ≤ 65536) (w : World) : Calls Try.prog 9 #[.int .i64 n] w fun e w' => e = .returned (.tuple #[.pointer (some ⟨w.heap.size, 0, none⟩), .int .i64 0]) ∧ Doc w.heap.size n [] [] (.slice none 0 0) (.slice none 0 0) w' ∧ Below w.heap.size w w' := by
  have q1 : decide (n < 0) = false := decide_eq_false (by omega)
  have q2 : decide (65536 < n) = false := decide_eq_false (by omega)
  have HB := (Below.refl w.heap.size w).alloc (Nat.le_refl _) (.cells [.int .i64 n, .slice none 0 0, .slice none 0 0].toArray 63)
  have HD : Hid (Doc w.heap.size n [] [] (.slice none 0 0) (.slice none 0 0) (w.alloc (.cells [.int .i64 n, .slice none 0 0, .slice none 0 0].toArray 63))) := ⟨blk_new w _, World.ownsRow_nil _ _ _ _, World.ownsRow_nil _ _ _ _, fun g hg => by simp [Value.ownBlock] at hg⟩
  go_enter Try.func9, Try.ntmps9
  go_wp2
  try go_ret2
  exact ⟨rfl, HD.out, HB⟩
set_option maxHeartbeats 1000000 in
theorem RNew_bad (n : Int) (hn : n < 0 ∨ 65536 < n) (w : World) : Calls Try.prog 9 #[.int .i64 n] w fun e w' => e = .returned (.tuple #[.pointer none, .int .i64 1]) ∧ w' = w := by
  rcases hn with hn | hn
  · have q : decide (n < 0) = true := decide_eq_true hn
    go_enter Try.func9, Try.ntmps9
    go_wp2
    try go_ret2
    exact ⟨rfl, rfl⟩
  · have q : decide (n < 0) = false := decide_eq_false (by omega)
    have q2 : decide (65536 < n) = true := decide_eq_true hn
    go_enter Try.func9, Try.ntmps9
    go_wp2
    try go_ret2
    exact ⟨rfl, rfl⟩
end Go.Proofs.Ytenahbdopgmpfaa

namespace Go.Proofs.Ytenahbdopgmpfaa
open Go Go.RowKit Go.Shelf
set_option linter.unusedVariables false
set_option linter.unusedSimpArgs false

theorem ins_mem {k : Bs} {v : Int} : ∀ {l : List Ent} {e : Ent}, e ∈ ins k v l → e = (k, v) ∨ e ∈ l
  | [], e, h => by simp [ins] at h; exact .inl h
  | x :: l, e, h => by
    rw [ins] at h
    split at h
    · rcases List.mem_cons.1 h with h | h
      · exact .inr (by simp [h])
      · rcases ins_mem h with h | h
        · exact .inl h
        · exact .inr (by simp [h])
    · split at h
      · rcases List.mem_cons.1 h with h | h
        · exact .inl h
        · exact .inr (by simp [h])
      · rcases List.mem_cons.1 h with h | h
        · exact .inl h
        · exact .inr h
theorem srt_tail {x : Ent} {l : List Ent} (h : Srt (x :: l)) : Srt l ∧ ∀ e ∈ l, ltB x.1 e.1 = true := ⟨(List.pairwise_cons.1 h).2, (List.pairwise_cons.1 h).1⟩
theorem look_less {k : Bs} {l : List Ent} (h : ∀ e ∈ l, ltB k e.1 = true) : lookN k l = (0, false) := lookN_none fun e he ek => by
  have := h e he
  rw [ek, ltB_irr] at this
  cases this
theorem ins_len {k : Bs} {v : Int} : ∀ {l : List Ent}, Srt l → (ins k v l).length = if (lookN k l).2 then l.length else l.length + 1
  | [], _ => rfl
  | x :: l, h => by
    obtain ⟨hs, hx⟩ := srt_tail h
    rw [ins, lookN]
    split
    · rename_i c
      rw [if_neg (ltB_ne c), List.length_cons, ins_len hs]
      split <;> rfl
    · split
      · rfl
      · rename_i c1 c2
        have : ltB k x.1 = true := ltB_tri (by simpa using c1) c2
        rw [look_less fun e he => ltB_trans this (hx e he)]
        rfl
theorem outs_len {k : Bs} : ∀ {l : List Ent}, Srt l → (outs k l).length = if (lookN k l).2 then l.length - 1 else l.length
  | [], _ => rfl
  | x :: l, h => by
    obtain ⟨hs, hx⟩ := srt_tail h
    rw [lookN]
    split
    · rename_i c
      have : outs k (x :: l) = l := by
        have h2 : outs k l = l := outs_none fun e he ek => by
          have := hx e he
          rw [c, ek, ltB_irr] at this
          cases this
        have h3 : outs k (x :: l) = outs k l := by simp [outs, c]
        rw [h3, h2]
      rw [this]
      rfl
    · rename_i c
      have : outs k (x :: l) = x :: outs k l := by simp [outs, c]
      have hlen := outs_len (k := k) hs
      rw [this, List.length_cons, hlen]
      split
      · rename_i hl
        have : 0 < l.length := by
          cases l with
          | nil => simp [lookN] at hl
          | cons => simp
        simp
        omega
      · rfl
theorem look_mem {k : Bs} : ∀ {l : List Ent}, (lookN k l).2 = true → (k, (lookN k l).1) ∈ l
  | [], h => by simp [lookN] at h
  | x :: l, h => by
    rw [lookN] at h ⊢
    split at h
    · rename_i c
      rw [if_pos c, ← c]
      simp
    · rename_i c
      rw [if_neg c]
      exact List.mem_cons_of_mem _ (look_mem h)
theorem ents_ok : ∀ {t : Tr}, t.Ok → ∀ e ∈ t.ents, e.1.length ≤ 128
  | .nil, _, e, he => by simp [Tr.ents] at he
  | .leaf k v, h, e, he => by simp [Tr.ents] at he; rw [he]; exact h
  | .fork k a b c, h, e, he => by
    obtain ⟨_, h1, h2, h3⟩ := h
    simp only [Tr.ents, List.mem_append] at he
    rcases he with he | he | he
    · exact ents_ok h1 e he
    · exact ents_ok h2 e he
    · exact ents_ok h3 e he
/-- What a table's rows keep to. -/
structure LC (lim : Int) (l4 l6 : List Ent) : Prop where
  s4 : Srt l4
  s6 : Srt l6
  k4 : ∀ e ∈ l4, e.1.length ≤ 32
  k6 : ∀ e ∈ l6, e.1.length ≤ 128
  le : ((l4.length + l6.length : Nat) : Int) ≤ lim
  lim : lim ≤ 65536
/-- A table of package trie with these entries. -/
def TBL (p : Nat) (lim : Int) (l4 l6 : List Ent) (W : World) : Prop := ∃ T4 T6 : Tr, T4.ents = l4 ∧ T6.ents = l6 ∧ T4.Ok ∧ T6.Ok ∧ T4.wf ∧ T6.wf ∧ W.heap[p]? = some (.cells (tbC true lim ((l4.length + l6.length : Nat) : Int) T4 T6).toArray 76)
theorem TBL.on {p : Nat} {lim : Int} {l4 l6 : List Ent} {W W' : World} (h : TBL p lim l4 l6 W) (hb : W'.heap[p]? = W.heap[p]?) : TBL p lim l4 l6 W' := by
  obtain ⟨T4, T6, h1, h2, h3, h4, h5, h6, h7⟩ := h
  exact ⟨T4, T6, h1, h2, h3, h4, h5, h6, hb.trans h7⟩
theorem TBL.lt {p : Nat} {lim : Int} {l4 l6 : List Ent} {W : World} (h : TBL p lim l4 l6 W) : p < W.heap.size := by
  obtain ⟨T4, T6, h1, h2, h3, h4, h5, h6, h7⟩ := h
  exact (Array.getElem?_eq_some_iff.1 h7).1
theorem TBL.srt {p : Nat} {lim : Int} {l4 l6 : List Ent} {W : World} (h : TBL p lim l4 l6 W) : Srt l4 ∧ Srt l6 := by
  obtain ⟨T4, T6, rfl, rfl, h3, h4, h5, h6, h7⟩ := h
  exact ⟨ents_srt h5, ents_srt h6⟩
def ok4L (l : List Int) (n : Int) : Bool := match l with | [a0, a1, a2, a3] => okP4 a0 a1 a2 a3 n | _ => false
abbrev ok6L (l : List Int) (n : Int) : Bool := okP6 l n
theorem pv4 {l : List Int} {n : Int} (hf : FitB l) (hl : l.length = 4) (h : ok4L l n = true) : (.agg (cp6 l n).toArray : Value) = PK4 (keyN l n) ∧ (keyN l n).length ≤ 32 := by
  match l, hl with
  | [a0, a1, a2, a3], _ =>
    obtain ⟨k, hk, e, hn⟩ := ok4_key hf h
    have ek : keyN [a0, a1, a2, a3] n = k := by
      unfold keyN
      rw [e, hn, Int.toNat_natCast]
      exact bitsK_bytN (by omega)
    rw [ek, e, hn]
    exact ⟨rfl, hk⟩
theorem pv6 {l : List Int} {n : Int} (hf : FitB l) (hl : l.length = 16) (h : ok6L l n = true) : (.agg (cp6 l n).toArray : Value) = PK6 (keyN l n) ∧ (keyN l n).length ≤ 128 := by
  obtain ⟨k, hk, e, hn⟩ := ok6_key hf hl h
  have ek : keyN l n = k := by
    unfold keyN
    rw [e, hn, Int.toNat_natCast]
    exact bitsK_bytN (by omega)
  rw [ek, e, hn]
  exact ⟨rfl, hk⟩
theorem bad4 {l : List Int} {n : Int} (hf : FitB l) (hl : l.length = 4) (hn : -9223372036854775808 ≤ n ∧ n ≤ 9223372036854775807) (h : ok4L l n = false) (X : World) : Calls Try.prog 48 #[.agg (cp6 l n).toArray] X fun e w' => e = .returned (.int .i64 22) ∧ Below X.heap.size X w' := by
  match l, hl with
  | [a0, a1, a2, a3], _ =>
    have := RCheck4_calls a0 a1 a2 a3 n X (hf a0 (by simp)) (hf a1 (by simp)) (hf a2 (by simp)) (hf a3 (by simp)) hn
    rw [show okP4 a0 a1 a2 a3 n = false from h] at this
    exact this
theorem bad6 {l : List Int} {n : Int} (hf : FitB l) (hl : l.length = 16) (hn : -9223372036854775808 ≤ n ∧ n ≤ 9223372036854775807) (h : ok6L l n = false) (X : World) : Calls Try.prog 50 #[.agg (cp6 l n).toArray] X fun e w' => e = .returned (.int .i64 22) ∧ Below X.heap.size X w' := by
  have := RCheck6_calls l n X hf hl hn
  rw [show okP6 l n = false from h] at this
  exact this
/-- What each call comes to, by entries. -/
def putR (l : List Ent) (ok : Bool) (k : Bs) (lim cnt v : Int) : Bool × Int × List Ent := if ok = false then (false, 22, l) else docP l k lim cnt v
def getR (l : List Ent) (ok : Bool) (k : Bs) : Int × Bool × Int := if ok = false then (0, false, 22) else ((lookN k l).1, (lookN k l).2, 0)
def delR (l : List Ent) (ok : Bool) (k : Bs) : Int × List Ent := if ok = false then (22, l) else (if (lookN k l).2 then 0 else 120, outs k l)
theorem LC.put4 {lim : Int} {l4 l6 : List Ent} (h : LC lim l4 l6) {k : Bs} (hk : k.length ≤ 32) {v : Int} (hl : (lookN k l4).2 = true ∨ ((l4.length + l6.length : Nat) : Int) < lim) (hs : Srt (ins k v l4)) : LC lim (ins k v l4) l6 := by
  refine ⟨hs, h.s6, fun e he => ?_, h.k6, ?_, h.lim⟩
  · rcases ins_mem he with rfl | he
    · exact hk
    · exact h.k4 e he
  · have := ins_len (k := k) (v := v) h.s4
    have h2 := h.le
    rw [this]
    rcases hl with hl | hl
    · rw [if_pos hl]; exact h2
    · split
      · exact h2
      · omega
theorem LC.put6 {lim : Int} {l4 l6 : List Ent} (h : LC lim l4 l6) {k : Bs} (hk : k.length ≤ 128) {v : Int} (hl : (lookN k l6).2 = true ∨ ((l4.length + l6.length : Nat) : Int) < lim) (hs : Srt (ins k v l6)) : LC lim l4 (ins k v l6) := by
  refine ⟨h.s4, hs, h.k4, fun e he => ?_, ?_, h.lim⟩
  · rcases ins_mem he with rfl | he
    · exact hk
    · exact h.k6 e he
  · have := ins_len (k := k) (v := v) h.s6
    have h2 := h.le
    rw [this]
    rcases hl with hl | hl
    · rw [if_pos hl]; exact h2
    · split
      · exact h2
      · omega
theorem ins_srt {k : Bs} {v : Int} : ∀ {l : List Ent}, Srt l → Srt (ins k v l)
  | [], _ => by simp [ins, Srt]
  | x :: l, h => by
    obtain ⟨hs, hx⟩ := srt_tail h
    rw [ins]
    split
    · rename_i c
      refine List.pairwise_cons.2 ⟨fun e he => ?_, ins_srt hs⟩
      rcases ins_mem he with rfl | he
      · exact c
      · exact hx e he
    · split
      · rename_i c
        refine List.pairwise_cons.2 ⟨fun e he => ?_, hs⟩
        rw [← c]
        exact hx e he
      · rename_i c1 c2
        have : ltB k x.1 = true := ltB_tri (by simpa using c1) c2
        refine List.pairwise_cons.2 ⟨fun e he => ?_, h⟩
        rcases List.mem_cons.1 he with rfl | he
        · exact this
        · exact ltB_trans this (hx e he)
theorem byt_addr {m : Nat} {a : List Int} (hf : FitB a) (ha : a.length = m) : a = bytN m (bitsK a (8 * m)) := by
  refine row_ext (by rw [bytN_length, ha]) hf (bytN_fit _ _) (fun p hp => ?_)
  rw [ha] at hp
  rw [bitN_bytN _ _ _ (by omega), bt_bitsK]
  rw [if_pos (by omega)]
theorem bits_pad {a : List Int} (ha : a.length = 4) : bitsK (a ++ List.replicate 12 0) 32 = bitsK a 32 := by
  unfold bitsK
  refine List.map_congr_left fun i hi => ?_
  have hi := List.mem_range.1 hi
  match a, ha with
  | [x0, x1, x2, x3], _ =>
    have : bitN ([x0, x1, x2, x3] ++ List.replicate 12 0) i = bitN [x0, x1, x2, x3] i := by
      unfold bitN
      rw [List.getElem?_append_left (by simp; omega)]
    rw [this]
theorem l4_of {l : List Int} (h : l.length = 4) : ∃ a0 a1 a2 a3, l = [a0, a1, a2, a3] := by
  match l, h with
  | [a0, a1, a2, a3], _ => exact ⟨a0, a1, a2, a3, rfl⟩
section
variable {W : World} {b : Nat} {lim cnt : Int} {T4 T6 : Tr} (h : W.heap[b]? = some (.cells (tbC true lim cnt T4 T6).toArray 76)) (hok : T4.Ok) (l : List Int) (n : Int) (hf : FitB l) (hl : l.length = 4) (hb : -9223372036854775808 ≤ n ∧ n ≤ 9223372036854775807)
include h hok hf hl hb
theorem Put4_L (v : Int) (hc : 0 ≤ cnt ∧ cnt ≤ lim ∧ lim ≤ 65536) :
    Calls Try.prog 20 #[.pointer (some ⟨b, 0, none⟩), .agg (cp6 l n).toArray, .int .i64 v] W fun e w' => e = .returned (.tuple #[.bool (outP T4 (ok4L l n) (keyN l n) lim cnt v).1, .int .i64 (outP T4 (ok4L l n) (keyN l n) lim cnt v).2.1]) ∧ w'.heap[b]? = some (.cells (tbC true lim (outP T4 (ok4L l n) (keyN l n) lim cnt v).2.2.1 (outP T4 (ok4L l n) (keyN l n) lim cnt v).2.2.2 T6).toArray 76) ∧ FrT b W w' := by
  obtain ⟨a0, a1, a2, a3, rfl⟩ := l4_of hl
  exact Put4_any h hok a0 a1 a2 a3 n (hf a0 (by simp)) (hf a1 (by simp)) (hf a2 (by simp)) (hf a3 (by simp)) hb v hc
theorem Get4_L :
    Calls Try.prog 26 #[.pointer (some ⟨b, 0, none⟩), .agg (cp6 l n).toArray] W fun e w' => e = .returned (.tuple #[.int .i64 (outG T4 (ok4L l n) (keyN l n)).1, .bool (outG T4 (ok4L l n) (keyN l n)).2.1, .int .i64 (outG T4 (ok4L l n) (keyN l n)).2.2]) ∧ w'.heap[b]? = some (.cells (tbC true lim cnt T4 T6).toArray 76) ∧ FrT b W w' := by
  obtain ⟨a0, a1, a2, a3, rfl⟩ := l4_of hl
  exact Get4_any h hok a0 a1 a2 a3 n (hf a0 (by simp)) (hf a1 (by simp)) (hf a2 (by simp)) (hf a3 (by simp)) hb
theorem Del4_L (hwf : T4.wf) (hc : cnt ≤ 65536) (hpos : (gotN T4 (keyN l n)).2 = true → 0 < cnt) :
    Calls Try.prog 22 #[.pointer (some ⟨b, 0, none⟩), .agg (cp6 l n).toArray] W fun e w' => e = .returned (.int .i64 (outD T4 (ok4L l n) (keyN l n) cnt).1) ∧ w'.heap[b]? = some (.cells (tbC true lim (outD T4 (ok4L l n) (keyN l n) cnt).2.1 (outD T4 (ok4L l n) (keyN l n) cnt).2.2 T6).toArray 76) ∧ FrT b W w' := by
  obtain ⟨a0, a1, a2, a3, rfl⟩ := l4_of hl
  exact Del4_any h hok a0 a1 a2 a3 n (hf a0 (by simp)) (hf a1 (by simp)) (hf a2 (by simp)) (hf a3 (by simp)) hb hwf hc hpos
theorem Under4_L (hn : T4.ents.length ≤ 100000) :
    Calls Try.prog 28 #[.pointer (some ⟨b, 0, none⟩), .agg (cp6 l n).toArray] W fun e w' => ∃ vs, e = .returned (.tuple #[vs, .int .i64 (if ok4L l n then 0 else 22)]) ∧ w'.ownsRow W.heap.size 47 6 vs (undL T4 (ok4L l n) (keyN l n)).length ((undL T4 (ok4L l n) (keyN l n)).flatMap ec4) ∧ Below W.heap.size W w' := by
  obtain ⟨a0, a1, a2, a3, rfl⟩ := l4_of hl
  exact Under4_any h hok hn a0 a1 a2 a3 n (hf a0 (by simp)) (hf a1 (by simp)) (hf a2 (by simp)) (hf a3 (by simp)) hb
theorem Over4_L (hn : T4.ents.length ≤ 100000) :
    Calls Try.prog 29 #[.pointer (some ⟨b, 0, none⟩), .agg (cp6 l n).toArray] W fun e w' => ∃ vs, e = .returned (.tuple #[vs, .int .i64 (if ok4L l n then 0 else 22)]) ∧ w'.ownsRow W.heap.size 47 6 vs (ovrL T4 (ok4L l n) (keyN l n)).length ((ovrL T4 (ok4L l n) (keyN l n)).flatMap ec4) ∧ Below W.heap.size W w' := by
  obtain ⟨a0, a1, a2, a3, rfl⟩ := l4_of hl
  exact Over4_any h hok hn a0 a1 a2 a3 n (hf a0 (by simp)) (hf a1 (by simp)) (hf a2 (by simp)) (hf a3 (by simp)) hb
end
/-- Under and Over, by entries. -/
def undR (l : List Ent) (ok : Bool) (k : Bs) : List Ent := if ok = false then [] else l.filter (fun e => pre k e.1)
def ovrR (l : List Ent) (ok : Bool) (k : Bs) : List Ent := if ok = false then [] else l.filter (fun e => pre e.1 k)
theorem putR_lc4 {lim : Int} {l4 l6 : List Ent} (h : LC lim l4 l6) (ok : Bool) {k : Bs} (hk : ok = true → k.length ≤ 32) (v : Int) : LC lim (putR l4 ok k lim ((l4.length + l6.length : Nat) : Int) v).2.2 l6 := by
  have hsi : ∀ hl : (lookN k l4).2 = true ∨ ((l4.length + l6.length : Nat) : Int) < lim, ok = true → LC lim (ins k v l4) l6 := fun hl ho => h.put4 (hk ho) hl (ins_srt h.s4)
  cases ok with
  | false => exact h
  | true =>
    show LC lim (docP l4 k lim ((l4.length + l6.length : Nat) : Int) v).2.2 l6
    cases hl : (lookN k l4).2 with
    | true => rw [docP_was hl]; exact hsi (.inl hl) rfl
    | false =>
      by_cases hq : lim ≤ ((l4.length + l6.length : Nat) : Int)
      · rw [docP_full hl hq]; exact h
      · rw [docP_new hl hq]; exact hsi (.inr (by omega)) rfl
theorem delR_lc4 {lim : Int} {l4 l6 : List Ent} (h : LC lim l4 l6) (ok : Bool) (k : Bs) : LC lim (delR l4 ok k).2 l6 := by
  have h1 : Srt (outs k l4) := List.Pairwise.sublist List.filter_sublist h.s4
  have h2 : (outs k l4).length ≤ l4.length := List.length_filter_le _ _
  have h3 : ∀ e ∈ outs k l4, e.1.length ≤ 32 := fun e he => h.k4 e (List.mem_filter.1 he).1
  cases ok with
  | false => exact h
  | true => exact ⟨h1, h.s6, h3, h.k6, (by have := h.le; simp only [delR]; rw [if_neg (by simp)]; simp only; omega), h.lim⟩
set_option maxHeartbeats 1000000 in
theorem PPut4 {p : Nat} {lim : Int} {l4 l6 : List Ent} {W : World} (h : TBL p lim l4 l6 W) (hc : LC lim l4 l6) (l : List Int) (n : Int) (hf : FitB l) (hl : l.length = 4) (hn : -9223372036854775808 ≤ n ∧ n ≤ 9223372036854775807) (v : Int) :
    Calls Try.prog 20 #[.pointer (some ⟨p, 0, none⟩), .agg (cp6 l n).toArray, .int .i64 v] W fun e w' => e = .returned (.tuple #[.bool (putR l4 (ok4L l n) (keyN l n) lim ((l4.length + l6.length : Nat) : Int) v).1, .int .i64 (putR l4 (ok4L l n) (keyN l n) lim ((l4.length + l6.length : Nat) : Int) v).2.1]) ∧ TBL p lim (putR l4 (ok4L l n) (keyN l n) lim ((l4.length + l6.length : Nat) : Int) v).2.2 l6 w' ∧ FrT p W w' := by
  obtain ⟨T4, T6, rfl, rfl, h3, h4, h5, h6, h7⟩ := h
  have hk : ok4L l n = true → (keyN l n).length ≤ 32 := fun ho => (pv4 hf hl ho).2
  have hcn := hc.le
  have hlm := hc.lim
  refine (Put4_L h7 h3 l n hf hl hn v ⟨by omega, hcn, hlm⟩).mono ?_
  rintro e w' ⟨rfl, hb, hfr⟩
  cases ho : ok4L l n with
  | false =>
    rw [ho] at hb
    exact ⟨rfl, ⟨T4, T6, rfl, rfl, h3, h4, h5, h6, hb⟩, hfr⟩
  | true =>
    rw [ho] at hb
    have hk' := hk ho
    have e1 : (outP T4 true (keyN l n) lim ((T4.ents.length + T6.ents.length : Nat) : Int) v) = if (lookN (keyN l n) T4.ents).2 then (true, 0, ((T4.ents.length + T6.ents.length : Nat) : Int), T4.put (keyN l n) v) else if ((T4.ents.length + T6.ents.length : Nat) : Int) = lim then (false, 3, ((T4.ents.length + T6.ents.length : Nat) : Int), T4) else (false, 0, ((T4.ents.length + T6.ents.length : Nat) : Int) + 1, T4.put (keyN l n) v) := by
      unfold outP
      rw [if_neg (by simp), gotN_look h5]
    rw [e1] at hb ⊢
    show _ ∧ TBL p lim (docP T4.ents (keyN l n) lim ((T4.ents.length + T6.ents.length : Nat) : Int) v).2.2 T6.ents w' ∧ FrT p W w'
    show Ending.returned _ = Ending.returned (.tuple #[.bool (docP T4.ents (keyN l n) lim ((T4.ents.length + T6.ents.length : Nat) : Int) v).1, .int .i64 (docP T4.ents (keyN l n) lim ((T4.ents.length + T6.ents.length : Nat) : Int) v).2.1]) ∧ _ ∧ _
    have hpo := put_ok (k := keyN l n) (v := v) h5
    have hil := ins_len (k := keyN l n) (v := v) (ents_srt h5)
    cases hlk : (lookN (keyN l n) T4.ents).2 with
    | true =>
      rw [docP_was hlk]
      rw [hlk, if_pos rfl] at hb hil
      refine ⟨rfl, ⟨T4.put _ v, T6, hpo.2.1, rfl, put_okT h3 (by omega) v, h4, hpo.1, h6, ?_⟩, hfr⟩
      rw [hil]
      exact hb
    | false =>
      rw [hlk, if_neg (by simp)] at hb hil
      by_cases hq : lim ≤ ((T4.ents.length + T6.ents.length : Nat) : Int)
      · rw [docP_full hlk hq]
        rw [if_pos (by omega)] at hb
        rw [if_neg (by simp), if_pos (by omega)]
        exact ⟨rfl, ⟨T4, T6, rfl, rfl, h3, h4, h5, h6, hb⟩, hfr⟩
      · rw [docP_new hlk hq]
        rw [if_neg (by omega)] at hb
        rw [if_neg (by simp), if_neg (by omega)]
        refine ⟨rfl, ⟨T4.put _ v, T6, hpo.2.1, rfl, put_okT h3 (by omega) v, h4, hpo.1, h6, ?_⟩, hfr⟩
        rw [hil]
        rw [show ((T4.ents.length + 1 + T6.ents.length : Nat) : Int) = ((T4.ents.length + T6.ents.length : Nat) : Int) + 1 by omega]
        exact hb
theorem PGet4 {p : Nat} {lim : Int} {l4 l6 : List Ent} {W : World} (h : TBL p lim l4 l6 W) (l : List Int) (n : Int) (hf : FitB l) (hl : l.length = 4) (hn : -9223372036854775808 ≤ n ∧ n ≤ 9223372036854775807) :
    Calls Try.prog 26 #[.pointer (some ⟨p, 0, none⟩), .agg (cp6 l n).toArray] W fun e w' => e = .returned (.tuple #[.int .i64 (getR l4 (ok4L l n) (keyN l n)).1, .bool (getR l4 (ok4L l n) (keyN l n)).2.1, .int .i64 (getR l4 (ok4L l n) (keyN l n)).2.2]) ∧ TBL p lim l4 l6 w' ∧ FrT p W w' := by
  obtain ⟨T4, T6, rfl, rfl, h3, h4, h5, h6, h7⟩ := h
  refine (Get4_L h7 h3 l n hf hl hn).mono ?_
  rintro e w' ⟨rfl, hb, hfr⟩
  refine ⟨?_, ⟨T4, T6, rfl, rfl, h3, h4, h5, h6, hb⟩, hfr⟩
  have e1 : outG T4 (ok4L l n) (keyN l n) = getR T4.ents (ok4L l n) (keyN l n) := by
    unfold outG getR
    rw [gotN_look h5]
  rw [← e1]
  
theorem PDel4 {p : Nat} {lim : Int} {l4 l6 : List Ent} {W : World} (h : TBL p lim l4 l6 W) (hc : LC lim l4 l6) (l : List Int) (n : Int) (hf : FitB l) (hl : l.length = 4) (hn : -9223372036854775808 ≤ n ∧ n ≤ 9223372036854775807) :
    Calls Try.prog 22 #[.pointer (some ⟨p, 0, none⟩), .agg (cp6 l n).toArray] W fun e w' => e = .returned (.int .i64 (delR l4 (ok4L l n) (keyN l n)).1) ∧ TBL p lim (delR l4 (ok4L l n) (keyN l n)).2 l6 w' ∧ FrT p W w' := by
  obtain ⟨T4, T6, rfl, rfl, h3, h4, h5, h6, h7⟩ := h
  have hcn := hc.le
  have hlm := hc.lim
  have hpos : (gotN T4 (keyN l n)).2 = true → 0 < ((T4.ents.length + T6.ents.length : Nat) : Int) := fun hh => by
    rw [gotN_look h5] at hh
    have := List.length_pos_of_mem (look_mem hh)
    omega
  refine (Del4_L h7 h3 l n hf hl hn h5 (by omega) hpos).mono ?_
  rintro e w' ⟨rfl, hb, hfr⟩
  cases ho : ok4L l n with
  | false =>
    rw [ho] at hb
    exact ⟨rfl, ⟨T4, T6, rfl, rfl, h3, h4, h5, h6, hb⟩, hfr⟩
  | true =>
    rw [ho] at hb
    have hk' := (pv4 hf hl ho).2
    have e1 : outD T4 true (keyN l n) ((T4.ents.length + T6.ents.length : Nat) : Int) = if (lookN (keyN l n) T4.ents).2 then (0, ((T4.ents.length + T6.ents.length : Nat) : Int) - 1, T4.del (keyN l n)) else (120, ((T4.ents.length + T6.ents.length : Nat) : Int), T4) := by
      unfold outD
      rw [if_neg (by simp), gotN_look h5]
    rw [e1] at hb ⊢
    show Ending.returned _ = Ending.returned (.int .i64 (if (lookN (keyN l n) T4.ents).2 then 0 else 120)) ∧ TBL p lim (outs (keyN l n) T4.ents) T6.ents w' ∧ FrT p W w'
    have hol := outs_len (k := keyN l n) (ents_srt h5)
    cases hlk : (lookN (keyN l n) T4.ents).2 with
    | true =>
      have hm := look_mem hlk
      have hpo := del_ok (k := keyN l n) h5 ⟨_, hm⟩
      have hpl := List.length_pos_of_mem hm
      rw [hlk, if_pos rfl] at hb hol
      refine ⟨rfl, ⟨T4.del _, T6, hpo.2.1, rfl, del_okT h3 _, h4, hpo.1, h6, ?_⟩, hfr⟩
      rw [hol]
      rw [show ((T4.ents.length - 1 + T6.ents.length : Nat) : Int) = ((T4.ents.length + T6.ents.length : Nat) : Int) - 1 by omega]
      exact hb
    | false =>
      rw [hlk, if_neg (by simp)] at hb
      rw [outs_look hlk, if_neg (by simp)]
      exact ⟨rfl, ⟨T4, T6, rfl, rfl, h3, h4, h5, h6, hb⟩, hfr⟩
theorem DPut4 {b : Nat} {lim : Int} {l4 l6 : List Ent} {v4 v6 : Value} {W : World} (h : Doc b lim l4 l6 v4 v6 W) (hc : LC lim l4 l6) (l : List Int) (n : Int) (hf : FitB l) (hl : l.length = 4) (hn : -9223372036854775808 ≤ n ∧ n ≤ 9223372036854775807) (v : Int) :
    Calls Try.prog 31 #[.pointer (some ⟨b, 0, none⟩), .agg (cp6 l n).toArray, .int .i64 v] W fun e w' => ∃ u, e = .returned (.tuple #[.bool (putR l4 (ok4L l n) (keyN l n) lim ((l4.length + l6.length : Nat) : Int) v).1, .int .i64 (putR l4 (ok4L l n) (keyN l n) lim ((l4.length + l6.length : Nat) : Int) v).2.1]) ∧ Doc b lim (putR l4 (ok4L l n) (keyN l n) lim ((l4.length + l6.length : Nat) : Int) v).2.2 l6 u v6 w' ∧ Below b W w' := by
  cases ho : ok4L l n with
  | false =>
    refine (RPut4_bad (W := W) (b := b) (cp6 l n).toArray.toList (by simp [cp6, u8s, hl]) (fun X => by simpa using bad4 hf hl hn ho X) v).mono ?_
    rintro e w' ⟨rfl, hb⟩
    exact ⟨v4, rfl, h.on hb, hb.mono (Nat.le_of_lt h.lt)⟩
  | true =>
    obtain ⟨ev, hk⟩ := pv4 hf hl ho
    rw [ev]
    have := hc.le
    have := hc.lim
    exact RPut4_key h hc.s4 (keyN l n) hk hc.k4 (by omega) v
theorem DGet4 {b : Nat} {lim : Int} {l4 l6 : List Ent} {v4 v6 : Value} {W : World} (h : Doc b lim l4 l6 v4 v6 W) (hc : LC lim l4 l6) (l : List Int) (n : Int) (hf : FitB l) (hl : l.length = 4) (hn : -9223372036854775808 ≤ n ∧ n ≤ 9223372036854775807) :
    Calls Try.prog 23 #[.pointer (some ⟨b, 0, none⟩), .agg (cp6 l n).toArray] W fun e w' => e = .returned (.tuple #[.int .i64 (getR l4 (ok4L l n) (keyN l n)).1, .bool (getR l4 (ok4L l n) (keyN l n)).2.1, .int .i64 (getR l4 (ok4L l n) (keyN l n)).2.2]) ∧ Below W.heap.size W w' := by
  cases ho : ok4L l n with
  | false =>
    exact RGet4_bad (W := W) (b := b) (cp6 l n).toArray.toList (by simp [cp6, u8s, hl]) (fun X => by simpa using bad4 hf hl hn ho X)
  | true =>
    obtain ⟨ev, hk⟩ := pv4 hf hl ho
    rw [ev]
    have := hc.le
    have := hc.lim
    exact RGet4_key h (keyN l n) hk hc.k4 (by omega)
theorem DDel4 {b : Nat} {lim : Int} {l4 l6 : List Ent} {v4 v6 : Value} {W : World} (h : Doc b lim l4 l6 v4 v6 W) (hc : LC lim l4 l6) (l : List Int) (n : Int) (hf : FitB l) (hl : l.length = 4) (hn : -9223372036854775808 ≤ n ∧ n ≤ 9223372036854775807) :
    Calls Try.prog 33 #[.pointer (some ⟨b, 0, none⟩), .agg (cp6 l n).toArray] W fun e w' => ∃ u, e = .returned (.int .i64 (delR l4 (ok4L l n) (keyN l n)).1) ∧ Doc b lim (delR l4 (ok4L l n) (keyN l n)).2 l6 u v6 w' ∧ FrT b W w' := by
  cases ho : ok4L l n with
  | false =>
    refine (RDel4_bad (W := W) (b := b) (cp6 l n).toArray.toList (by simp [cp6, u8s, hl]) (fun X => by simpa using bad4 hf hl hn ho X)).mono ?_
    rintro e w' ⟨rfl, hb⟩
    exact ⟨v4, rfl, h.on hb, FrT.of_below hb⟩
  | true =>
    obtain ⟨ev, hk⟩ := pv4 hf hl ho
    rw [ev]
    have := hc.le
    have := hc.lim
    exact RDel4_key h (keyN l n) hk hc.k4 (by omega)
theorem PBest4 {p : Nat} {lim : Int} {l4 l6 : List Ent} {W : World} (h : TBL p lim l4 l6 W) (a : List Int) (ha : a.length = 4) (hf : FitB a) :
    Calls Try.prog 14 #[.pointer (some ⟨p, 0, none⟩), .agg (u8s a).toArray] W fun e w' => e = .returned (.tuple #[.agg (bE4 (bstN (fun k => pre k (bitsK a 32)) l4)).toArray, .bool (bstN (fun k => pre k (bitsK a 32)) l4).isSome]) ∧ Below W.heap.size W w' := by
  obtain ⟨T4, T6, rfl, rfl, h3, h4, h5, h6, h7⟩ := h
  have hh := Best4_any h7 h3 a ha hf _ rfl
  rw [walk_over h5, bits_pad ha, lastE_4, lastB_some] at hh
  rw [bst_last _ _ (ents_srt h5)]
  exact hh
theorem DBest4 {b : Nat} {lim : Int} {l4 l6 : List Ent} {v4 v6 : Value} {W : World} (h : Doc b lim l4 l6 v4 v6 W) (hc : LC lim l4 l6) (a : List Int) (ha : a.length = 4) (hf : FitB a) :
    Calls Try.prog 35 #[.pointer (some ⟨b, 0, none⟩), .agg (u8s a).toArray] W fun e w' => e = .returned (.tuple #[.agg (bE4 (bstN (fun k => pre k (bitsK a 32)) l4)).toArray, .bool (bstN (fun k => pre k (bitsK a 32)) l4).isSome]) ∧ Below W.heap.size W w' := by
  have := hc.le
  have := hc.lim
  have hh := RBest4_key h (bitsK a 32) (bitsK_length _ _) hc.k4 (by omega)
  rw [← byt_addr (m := 4) hf ha] at hh
  exact hh
theorem putR_lc6 {lim : Int} {l4 l6 : List Ent} (h : LC lim l4 l6) (ok : Bool) {k : Bs} (hk : ok = true → k.length ≤ 128) (v : Int) : LC lim l4 (putR l6 ok k lim ((l4.length + l6.length : Nat) : Int) v).2.2 := by
  have hsi : ∀ hl : (lookN k l6).2 = true ∨ ((l4.length + l6.length : Nat) : Int) < lim, ok = true → LC lim l4 (ins k v l6) := fun hl ho => h.put6 (hk ho) hl (ins_srt h.s6)
  cases ok with
  | false => exact h
  | true =>
    show LC lim l4 (docP l6 k lim ((l4.length + l6.length : Nat) : Int) v).2.2
    cases hl : (lookN k l6).2 with
    | true => rw [docP_was hl]; exact hsi (.inl hl) rfl
    | false =>
      by_cases hq : lim ≤ ((l4.length + l6.length : Nat) : Int)
      · rw [docP_full hl hq]; exact h
      · rw [docP_new hl hq]; exact hsi (.inr (by omega)) rfl
theorem delR_lc6 {lim : Int} {l4 l6 : List Ent} (h : LC lim l4 l6) (ok : Bool) (k : Bs) : LC lim l4 (delR l6 ok k).2 := by
  have h1 : Srt (outs k l6) := List.Pairwise.sublist List.filter_sublist h.s6
  have h2 : (outs k l6).length ≤ l6.length := List.length_filter_le _ _
  have h3 : ∀ e ∈ outs k l6, e.1.length ≤ 128 := fun e he => h.k6 e (List.mem_filter.1 he).1
  cases ok with
  | false => exact h
  | true => exact ⟨h.s4, h1, h.k4, h3, (by have := h.le; simp only [delR]; rw [if_neg (by simp)]; simp only; omega), h.lim⟩
set_option maxHeartbeats 1000000 in
theorem PPut6 {p : Nat} {lim : Int} {l4 l6 : List Ent} {W : World} (h : TBL p lim l4 l6 W) (hc : LC lim l4 l6) (l : List Int) (n : Int) (hf : FitB l) (hl : l.length = 16) (hn : -9223372036854775808 ≤ n ∧ n ≤ 9223372036854775807) (v : Int) :
    Calls Try.prog 21 #[.pointer (some ⟨p, 0, none⟩), .agg (cp6 l n).toArray, .int .i64 v] W fun e w' => e = .returned (.tuple #[.bool (putR l6 (ok6L l n) (keyN l n) lim ((l4.length + l6.length : Nat) : Int) v).1, .int .i64 (putR l6 (ok6L l n) (keyN l n) lim ((l4.length + l6.length : Nat) : Int) v).2.1]) ∧ TBL p lim l4 (putR l6 (ok6L l n) (keyN l n) lim ((l4.length + l6.length : Nat) : Int) v).2.2 w' ∧ FrT p W w' := by
  obtain ⟨T4, T6, rfl, rfl, h3, h4, h5, h6, h7⟩ := h
  have hk : ok6L l n = true → (keyN l n).length ≤ 128 := fun ho => (pv6 hf hl ho).2
  have hcn := hc.le
  have hlm := hc.lim
  refine (Put6_any h7 h4 l n hf hl hn v ⟨by omega, hcn, hlm⟩).mono ?_
  rintro e w' ⟨rfl, hb, hfr⟩
  cases ho : ok6L l n with
  | false =>
    rw [show okP6 l n = _ from ho] at hb ⊢
    exact ⟨rfl, ⟨T4, T6, rfl, rfl, h3, h4, h5, h6, hb⟩, hfr⟩
  | true =>
    rw [show okP6 l n = _ from ho] at hb ⊢
    have hk' := hk ho
    have e1 : (outP T6 true (keyN l n) lim ((T4.ents.length + T6.ents.length : Nat) : Int) v) = if (lookN (keyN l n) T6.ents).2 then (true, 0, ((T4.ents.length + T6.ents.length : Nat) : Int), T6.put (keyN l n) v) else if ((T4.ents.length + T6.ents.length : Nat) : Int) = lim then (false, 3, ((T4.ents.length + T6.ents.length : Nat) : Int), T6) else (false, 0, ((T4.ents.length + T6.ents.length : Nat) : Int) + 1, T6.put (keyN l n) v) := by
      unfold outP
      rw [if_neg (by simp), gotN_look h6]
    rw [e1] at hb ⊢
    show _ ∧ TBL p lim T4.ents (docP T6.ents (keyN l n) lim ((T4.ents.length + T6.ents.length : Nat) : Int) v).2.2 w' ∧ FrT p W w'
    show Ending.returned _ = Ending.returned (.tuple #[.bool (docP T6.ents (keyN l n) lim ((T4.ents.length + T6.ents.length : Nat) : Int) v).1, .int .i64 (docP T6.ents (keyN l n) lim ((T4.ents.length + T6.ents.length : Nat) : Int) v).2.1]) ∧ _ ∧ _
    have hpo := put_ok (k := keyN l n) (v := v) h6
    have hil := ins_len (k := keyN l n) (v := v) (ents_srt h6)
    cases hlk : (lookN (keyN l n) T6.ents).2 with
    | true =>
      rw [docP_was hlk]
      rw [hlk, if_pos rfl] at hb hil
      refine ⟨rfl, ⟨T4, T6.put _ v, rfl, hpo.2.1, h3, put_okT h4 (by omega) v, h5, hpo.1, ?_⟩, hfr⟩
      rw [hil]
      exact hb
    | false =>
      rw [hlk, if_neg (by simp)] at hb hil
      by_cases hq : lim ≤ ((T4.ents.length + T6.ents.length : Nat) : Int)
      · rw [docP_full hlk hq]
        rw [if_pos (by omega)] at hb
        rw [if_neg (by simp), if_pos (by omega)]
        exact ⟨rfl, ⟨T4, T6, rfl, rfl, h3, h4, h5, h6, hb⟩, hfr⟩
      · rw [docP_new hlk hq]
        rw [if_neg (by omega)] at hb
        rw [if_neg (by simp), if_neg (by omega)]
        refine ⟨rfl, ⟨T4, T6.put _ v, rfl, hpo.2.1, h3, put_okT h4 (by omega) v, h5, hpo.1, ?_⟩, hfr⟩
        rw [hil]
        rw [show ((T4.ents.length + (T6.ents.length + 1) : Nat) : Int) = ((T4.ents.length + T6.ents.length : Nat) : Int) + 1 by omega]
        exact hb
theorem PGet6 {p : Nat} {lim : Int} {l4 l6 : List Ent} {W : World} (h : TBL p lim l4 l6 W) (l : List Int) (n : Int) (hf : FitB l) (hl : l.length = 16) (hn : -9223372036854775808 ≤ n ∧ n ≤ 9223372036854775807) :
    Calls Try.prog 27 #[.pointer (some ⟨p, 0, none⟩), .agg (cp6 l n).toArray] W fun e w' => e = .returned (.tuple #[.int .i64 (getR l6 (ok6L l n) (keyN l n)).1, .bool (getR l6 (ok6L l n) (keyN l n)).2.1, .int .i64 (getR l6 (ok6L l n) (keyN l n)).2.2]) ∧ TBL p lim l4 l6 w' ∧ FrT p W w' := by
  obtain ⟨T4, T6, rfl, rfl, h3, h4, h5, h6, h7⟩ := h
  refine (Get6_any h7 h4 l n hf hl hn).mono ?_
  rintro e w' ⟨rfl, hb, hfr⟩
  refine ⟨?_, ⟨T4, T6, rfl, rfl, h3, h4, h5, h6, hb⟩, hfr⟩
  have e1 : outG T6 (ok6L l n) (keyN l n) = getR T6.ents (ok6L l n) (keyN l n) := by
    unfold outG getR
    rw [gotN_look h6]
  rw [← e1]
  
theorem PDel6 {p : Nat} {lim : Int} {l4 l6 : List Ent} {W : World} (h : TBL p lim l4 l6 W) (hc : LC lim l4 l6) (l : List Int) (n : Int) (hf : FitB l) (hl : l.length = 16) (hn : -9223372036854775808 ≤ n ∧ n ≤ 9223372036854775807) :
    Calls Try.prog 24 #[.pointer (some ⟨p, 0, none⟩), .agg (cp6 l n).toArray] W fun e w' => e = .returned (.int .i64 (delR l6 (ok6L l n) (keyN l n)).1) ∧ TBL p lim l4 (delR l6 (ok6L l n) (keyN l n)).2 w' ∧ FrT p W w' := by
  obtain ⟨T4, T6, rfl, rfl, h3, h4, h5, h6, h7⟩ := h
  have hcn := hc.le
  have hlm := hc.lim
  have hpos : (gotN T6 (keyN l n)).2 = true → 0 < ((T4.ents.length + T6.ents.length : Nat) : Int) := fun hh => by
    rw [gotN_look h6] at hh
    have := List.length_pos_of_mem (look_mem hh)
    omega
  refine (Del6_any h7 h4 l n hf hl hn h6 (by omega) hpos).mono ?_
  rintro e w' ⟨rfl, hb, hfr⟩
  cases ho : ok6L l n with
  | false =>
    rw [show okP6 l n = _ from ho] at hb ⊢
    exact ⟨rfl, ⟨T4, T6, rfl, rfl, h3, h4, h5, h6, hb⟩, hfr⟩
  | true =>
    rw [show okP6 l n = _ from ho] at hb ⊢
    have hk' := (pv6 hf hl ho).2
    have e1 : outD T6 true (keyN l n) ((T4.ents.length + T6.ents.length : Nat) : Int) = if (lookN (keyN l n) T6.ents).2 then (0, ((T4.ents.length + T6.ents.length : Nat) : Int) - 1, T6.del (keyN l n)) else (120, ((T4.ents.length + T6.ents.length : Nat) : Int), T6) := by
      unfold outD
      rw [if_neg (by simp), gotN_look h6]
    rw [e1] at hb ⊢
    show Ending.returned _ = Ending.returned (.int .i64 (if (lookN (keyN l n) T6.ents).2 then 0 else 120)) ∧ TBL p lim T4.ents (outs (keyN l n) T6.ents) w' ∧ FrT p W w'
    have hol := outs_len (k := keyN l n) (ents_srt h6)
    cases hlk : (lookN (keyN l n) T6.ents).2 with
    | true =>
      have hm := look_mem hlk
      have hpo := del_ok (k := keyN l n) h6 ⟨_, hm⟩
      have hpl := List.length_pos_of_mem hm
      rw [hlk, if_pos rfl] at hb hol
      refine ⟨rfl, ⟨T4, T6.del _, rfl, hpo.2.1, h3, del_okT h4 _, h5, hpo.1, ?_⟩, hfr⟩
      rw [hol]
      rw [show ((T4.ents.length + (T6.ents.length - 1) : Nat) : Int) = ((T4.ents.length + T6.ents.length : Nat) : Int) - 1 by omega]
      exact hb
    | false =>
      rw [hlk, if_neg (by simp)] at hb
      rw [outs_look hlk, if_neg (by simp)]
      exact ⟨rfl, ⟨T4, T6, rfl, rfl, h3, h4, h5, h6, hb⟩, hfr⟩
theorem DPut6 {b : Nat} {lim : Int} {l4 l6 : List Ent} {v4 v6 : Value} {W : World} (h : Doc b lim l4 l6 v4 v6 W) (hc : LC lim l4 l6) (l : List Int) (n : Int) (hf : FitB l) (hl : l.length = 16) (hn : -9223372036854775808 ≤ n ∧ n ≤ 9223372036854775807) (v : Int) :
    Calls Try.prog 32 #[.pointer (some ⟨b, 0, none⟩), .agg (cp6 l n).toArray, .int .i64 v] W fun e w' => ∃ u, e = .returned (.tuple #[.bool (putR l6 (ok6L l n) (keyN l n) lim ((l4.length + l6.length : Nat) : Int) v).1, .int .i64 (putR l6 (ok6L l n) (keyN l n) lim ((l4.length + l6.length : Nat) : Int) v).2.1]) ∧ Doc b lim l4 (putR l6 (ok6L l n) (keyN l n) lim ((l4.length + l6.length : Nat) : Int) v).2.2 v4 u w' ∧ Below b W w' := by
  cases ho : ok6L l n with
  | false =>
    refine (RPut6_bad (W := W) (b := b) (cp6 l n).toArray.toList (by simp [cp6, u8s, hl]) (fun X => by simpa using bad6 hf hl hn ho X) v).mono ?_
    rintro e w' ⟨rfl, hb⟩
    exact ⟨v6, rfl, h.on hb, hb.mono (Nat.le_of_lt h.lt)⟩
  | true =>
    obtain ⟨ev, hk⟩ := pv6 hf hl ho
    rw [ev]
    have := hc.le
    have := hc.lim
    exact RPut6_key h hc.s6 (keyN l n) hk hc.k6 (by omega) v
theorem DGet6 {b : Nat} {lim : Int} {l4 l6 : List Ent} {v4 v6 : Value} {W : World} (h : Doc b lim l4 l6 v4 v6 W) (hc : LC lim l4 l6) (l : List Int) (n : Int) (hf : FitB l) (hl : l.length = 16) (hn : -9223372036854775808 ≤ n ∧ n ≤ 9223372036854775807) :
    Calls Try.prog 25 #[.pointer (some ⟨b, 0, none⟩), .agg (cp6 l n).toArray] W fun e w' => e = .returned (.tuple #[.int .i64 (getR l6 (ok6L l n) (keyN l n)).1, .bool (getR l6 (ok6L l n) (keyN l n)).2.1, .int .i64 (getR l6 (ok6L l n) (keyN l n)).2.2]) ∧ Below W.heap.size W w' := by
  cases ho : ok6L l n with
  | false =>
    exact RGet6_bad (W := W) (b := b) (cp6 l n).toArray.toList (by simp [cp6, u8s, hl]) (fun X => by simpa using bad6 hf hl hn ho X)
  | true =>
    obtain ⟨ev, hk⟩ := pv6 hf hl ho
    rw [ev]
    have := hc.le
    have := hc.lim
    exact RGet6_key h (keyN l n) hk hc.k6 (by omega)
theorem DDel6 {b : Nat} {lim : Int} {l4 l6 : List Ent} {v4 v6 : Value} {W : World} (h : Doc b lim l4 l6 v4 v6 W) (hc : LC lim l4 l6) (l : List Int) (n : Int) (hf : FitB l) (hl : l.length = 16) (hn : -9223372036854775808 ≤ n ∧ n ≤ 9223372036854775807) :
    Calls Try.prog 34 #[.pointer (some ⟨b, 0, none⟩), .agg (cp6 l n).toArray] W fun e w' => ∃ u, e = .returned (.int .i64 (delR l6 (ok6L l n) (keyN l n)).1) ∧ Doc b lim l4 (delR l6 (ok6L l n) (keyN l n)).2 v4 u w' ∧ FrT b W w' := by
  cases ho : ok6L l n with
  | false =>
    refine (RDel6_bad (W := W) (b := b) (cp6 l n).toArray.toList (by simp [cp6, u8s, hl]) (fun X => by simpa using bad6 hf hl hn ho X)).mono ?_
    rintro e w' ⟨rfl, hb⟩
    exact ⟨v6, rfl, h.on hb, FrT.of_below hb⟩
  | true =>
    obtain ⟨ev, hk⟩ := pv6 hf hl ho
    rw [ev]
    have := hc.le
    have := hc.lim
    exact RDel6_key h (keyN l n) hk hc.k6 (by omega)
theorem PBest6 {p : Nat} {lim : Int} {l4 l6 : List Ent} {W : World} (h : TBL p lim l4 l6 W) (a : List Int) (ha : a.length = 16) (hf : FitB a) :
    Calls Try.prog 15 #[.pointer (some ⟨p, 0, none⟩), .agg (u8s a).toArray] W fun e w' => e = .returned (.tuple #[.agg (bE6 (bstN (fun k => pre k (bitsK a 128)) l6)).toArray, .bool (bstN (fun k => pre k (bitsK a 128)) l6).isSome]) ∧ Below W.heap.size W w' := by
  obtain ⟨T4, T6, rfl, rfl, h3, h4, h5, h6, h7⟩ := h
  have hh := Best6_any h7 h4 a ha hf _ rfl
  rw [walk_over h6,  lastE_6, lastB_some] at hh
  rw [bst_last _ _ (ents_srt h6)]
  exact hh
theorem DBest6 {b : Nat} {lim : Int} {l4 l6 : List Ent} {v4 v6 : Value} {W : World} (h : Doc b lim l4 l6 v4 v6 W) (hc : LC lim l4 l6) (a : List Int) (ha : a.length = 16) (hf : FitB a) :
    Calls Try.prog 36 #[.pointer (some ⟨b, 0, none⟩), .agg (u8s a).toArray] W fun e w' => e = .returned (.tuple #[.agg (bE6 (bstN (fun k => pre k (bitsK a 128)) l6)).toArray, .bool (bstN (fun k => pre k (bitsK a 128)) l6).isSome]) ∧ Below W.heap.size W w' := by
  have := hc.le
  have := hc.lim
  have hh := RBest6_key h (bitsK a 128) (bitsK_length _ _) hc.k6 (by omega)
  rw [← byt_addr (m := 16) hf ha] at hh
  exact hh
theorem PUnder4 {p : Nat} {lim : Int} {l4 l6 : List Ent} {W : World} (h : TBL p lim l4 l6 W) (hc : LC lim l4 l6) (l : List Int) (n : Int) (hf : FitB l) (hl : l.length = 4) (hn : -9223372036854775808 ≤ n ∧ n ≤ 9223372036854775807) :
    Calls Try.prog 28 #[.pointer (some ⟨p, 0, none⟩), .agg (cp6 l n).toArray] W fun e w' => ∃ vs, e = .returned (.tuple #[vs, .int .i64 (if ok4L l n then 0 else 22)]) ∧ w'.ownsRow W.heap.size 47 6 vs (undR l4 (ok4L l n) (keyN l n)).length ((undR l4 (ok4L l n) (keyN l n)).flatMap ec4) ∧ Below W.heap.size W w' := by
  obtain ⟨T4, T6, rfl, rfl, h3, h4, h5, h6, h7⟩ := h
  have := hc.le
  have := hc.lim
  have e : undL T4 (ok4L l n) (keyN l n) = undR T4.ents (ok4L l n) (keyN l n) := by
    unfold undL undR
    rw [walk_under h5]
  rw [← e]
  exact Under4_L h7 h3 l n hf hl hn (by omega)
theorem DUnder4 {b : Nat} {lim : Int} {l4 l6 : List Ent} {v4 v6 : Value} {W : World} (h : Doc b lim l4 l6 v4 v6 W) (hc : LC lim l4 l6) (l : List Int) (n : Int) (hf : FitB l) (hl : l.length = 4) (hn : -9223372036854775808 ≤ n ∧ n ≤ 9223372036854775807) :
    Calls Try.prog 37 #[.pointer (some ⟨b, 0, none⟩), .agg (cp6 l n).toArray] W fun e w' => ∃ vs, e = .returned (.tuple #[vs, .int .i64 (if ok4L l n then 0 else 22)]) ∧ w'.ownsRow W.heap.size 47 6 vs (undR l4 (ok4L l n) (keyN l n)).length ((undR l4 (ok4L l n) (keyN l n)).flatMap ec4) ∧ Below W.heap.size W w' := by
  cases ho : ok4L l n with
  | false =>
    refine (RUnder4_bad (W := W) (b := b) (cp6 l n).toArray.toList (by simp [cp6, u8s, hl]) (fun X => by simpa using bad4 hf hl hn ho X)).mono ?_
    rintro e w' ⟨rfl, hb⟩
    exact ⟨_, rfl, World.ownsRow_nil _ _ _ _, hb⟩
  | true =>
    obtain ⟨ev, hk⟩ := pv4 hf hl ho
    rw [ev]
    have := hc.le
    have := hc.lim
    exact RUnder4_key h (keyN l n) hk hc.k4 (by omega)
theorem POver4 {p : Nat} {lim : Int} {l4 l6 : List Ent} {W : World} (h : TBL p lim l4 l6 W) (hc : LC lim l4 l6) (l : List Int) (n : Int) (hf : FitB l) (hl : l.length = 4) (hn : -9223372036854775808 ≤ n ∧ n ≤ 9223372036854775807) :
    Calls Try.prog 29 #[.pointer (some ⟨p, 0, none⟩), .agg (cp6 l n).toArray] W fun e w' => ∃ vs, e = .returned (.tuple #[vs, .int .i64 (if ok4L l n then 0 else 22)]) ∧ w'.ownsRow W.heap.size 47 6 vs (ovrR l4 (ok4L l n) (keyN l n)).length ((ovrR l4 (ok4L l n) (keyN l n)).flatMap ec4) ∧ Below W.heap.size W w' := by
  obtain ⟨T4, T6, rfl, rfl, h3, h4, h5, h6, h7⟩ := h
  have := hc.le
  have := hc.lim
  have e : ovrL T4 (ok4L l n) (keyN l n) = ovrR T4.ents (ok4L l n) (keyN l n) := by
    unfold ovrL ovrR
    rw [walk_over h5]
  rw [← e]
  exact Over4_L h7 h3 l n hf hl hn (by omega)
theorem DOver4 {b : Nat} {lim : Int} {l4 l6 : List Ent} {v4 v6 : Value} {W : World} (h : Doc b lim l4 l6 v4 v6 W) (hc : LC lim l4 l6) (l : List Int) (n : Int) (hf : FitB l) (hl : l.length = 4) (hn : -9223372036854775808 ≤ n ∧ n ≤ 9223372036854775807) :
    Calls Try.prog 38 #[.pointer (some ⟨b, 0, none⟩), .agg (cp6 l n).toArray] W fun e w' => ∃ vs, e = .returned (.tuple #[vs, .int .i64 (if ok4L l n then 0 else 22)]) ∧ w'.ownsRow W.heap.size 47 6 vs (ovrR l4 (ok4L l n) (keyN l n)).length ((ovrR l4 (ok4L l n) (keyN l n)).flatMap ec4) ∧ Below W.heap.size W w' := by
  cases ho : ok4L l n with
  | false =>
    refine (ROver4_bad (W := W) (b := b) (cp6 l n).toArray.toList (by simp [cp6, u8s, hl]) (fun X => by simpa using bad4 hf hl hn ho X)).mono ?_
    rintro e w' ⟨rfl, hb⟩
    exact ⟨_, rfl, World.ownsRow_nil _ _ _ _, hb⟩
  | true =>
    obtain ⟨ev, hk⟩ := pv4 hf hl ho
    rw [ev]
    have := hc.le
    have := hc.lim
    exact ROver4_key h (keyN l n) hk hc.k4 (by omega)
end Go.Proofs.Ytenahbdopgmpfaa
