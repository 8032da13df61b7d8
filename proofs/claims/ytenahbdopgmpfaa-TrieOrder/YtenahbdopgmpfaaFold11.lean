/-
  Trees as values, their boxes; covers, top.
  top; each over any tree, whatever is wanted and whoever takes.
-/
import Derived.Test.YtenahbdopgmpfaaFold10
import Derived.Test.YtenahbdopgmpfaaFold09
import Derived.Handy
namespace Go.Proofs.Ytenahbdopgmpfaa
open Go Go.RowKit
set_option linter.unusedVariables false
set_option linter.unusedSimpArgs false

def kC (k : Bs) : List Value := cp6 (bytN 16 k) k.length
abbrev KV (k : Bs) : Value := .agg (kC k).toArray
theorem kC_length (k : Bs) : (kC k).length = 17 := cp6_length _ _ (bytN_length _ _)
theorem kC_one (k : Bs) : ∀ v ∈ kC k, v.oneCell' = true := cp6_one _ _
theorem kC_def (k : Bs) : kC k = u8s (bytN 16 k) ++ [Value.int .i64 k.length] := rfl
def lfC (k : Bs) (v : Int) : List Value := kC k ++ [.int .i64 v]
abbrev LF (k : Bs) (v : Int) : Value := .agg (lfC k v).toArray
def fkC (k : Bs) (a b c : Value) : List Value := kC k ++ [a, b, c]
abbrev FK (k : Bs) (a b c : Value) : Value := .agg (fkC k a b c).toArray
theorem lfC_length (k : Bs) (v : Int) : (lfC k v).length = 18 := by simp [lfC, kC_length]
theorem fkC_length (k : Bs) (a b c : Value) : (fkC k a b c).length = 20 := by simp [fkC, kC_length]
theorem lfC_one (k : Bs) (v : Int) : ∀ u ∈ lfC k v, u.oneCell' = true := by
  intro u hu
  rcases List.mem_append.1 hu with h | h
  · exact kC_one k u h
  · rw [List.mem_singleton.1 h]; rfl
theorem fkC_one (k : Bs) {a b c : Value} (ha : a.oneCell' = true) (hb : b.oneCell' = true) (hc : c.oneCell' = true) : ∀ u ∈ fkC k a b c, u.oneCell' = true := by
  intro u hu
  rcases List.mem_append.1 hu with h | h
  · exact kC_one k u h
  · simp at h
    rcases h with rfl | rfl | rfl <;> assumption
def enc : Tr → Value
  | .nil => .nilIface
  | .leaf k v => .iface 85 (LF k v)
  | .fork k a b c => .iface 117 (FK k (enc a) (enc b) (enc c))
theorem enc_one (t : Tr) : (enc t).oneCell' = true := by cases t <;> rfl

/-- What lies in a box that begins with a key. -/
theorem kb_key {w : World} {b : Nat} {t : TypeId} {k : Bs} {r : List Value} (h : w.heap[b]? = some (.cells (kC k ++ r).toArray t)) : (Instr.loadAt 39 (.pointer (some ⟨b, 0, none⟩))).run Try.prog w = .ok (KV k) w :=
  agg_load (n := 17) (fun w => by kernel_rfl) (fun w => by kernel_rfl) (kC_length k) (CellsAt.fst (CellsAt.of_blk h))
theorem kb_addr {w : World} {b : Nat} {t : TypeId} {k : Bs} {r : List Value} (h : w.heap[b]? = some (.cells (kC k ++ r).toArray t)) : (Instr.loadAt 37 (.pointer (some ⟨b, 0, none⟩))).run Try.prog w = .ok (A6 (bytN 16 k)) w :=
  agg_load (n := 16) (fun w => by kernel_rfl) (fun w => by kernel_rfl) (by rw [u8s_length, bytN_length]) (CellsAt.fst (ys := [Value.int .i64 k.length]) (CellsAt.fst (CellsAt.of_blk h)))
theorem kb_len {w : World} {b : Nat} {t : TypeId} {k : Bs} {r : List Value} (h : w.heap[b]? = some (.cells (kC k ++ r).toArray t)) : w.cell? ⟨b, 16, none⟩ = some (.int .i64 k.length) :=
  blk_cell h (by rw [List.getElem?_append_left (by rw [kC_length]; decide), kC_def, List.getElem?_append_right (by rw [u8s_length, bytN_length]; decide), u8s_length, bytN_length]; rfl)
theorem kb_byte {w : World} {b : Nat} {t : TypeId} {k : Bs} {r : List Value} (h : w.heap[b]? = some (.cells (kC k ++ r).toArray t)) (i : Nat) (hi : i < 16) : w.cell? ⟨b, i, none⟩ = some (.int .u8 (byteV k i : Nat)) :=
  blk_cell h (by rw [List.getElem?_append_left (by rw [kC_length]; omega), kC_def, List.getElem?_append_left (by rw [u8s_length, bytN_length]; omega)]; simp [u8s, bytN, hi])
theorem kb0 {w : World} {b : Nat} {t : TypeId} {k : Bs} (h : w.heap[b]? = some (.cells (kC k).toArray t)) : w.heap[b]? = some (.cells (kC k ++ []).toArray t) := by rw [List.append_nil]; exact h
theorem lf_load {w : World} {b : Nat} {t : TypeId} {k : Bs} {v : Int} (h : w.heap[b]? = some (.cells (lfC k v).toArray t)) : (Instr.loadAt 85 (.pointer (some ⟨b, 0, none⟩))).run Try.prog w = .ok (LF k v) w :=
  agg_load (n := 18) (fun w => by kernel_rfl) (fun w => by kernel_rfl) (lfC_length k v) (CellsAt.of_blk h)
theorem lf_val {w : World} {b : Nat} {t : TypeId} {k : Bs} {v : Int} (h : w.heap[b]? = some (.cells (lfC k v).toArray t)) : w.cell? ⟨b, 17, none⟩ = some (.int .i64 v) :=
  blk_cell h (by rw [lfC, List.getElem?_append_right (by rw [kC_length]; decide), kC_length]; rfl)
theorem fk_load {w : World} {b : Nat} {t : TypeId} {k : Bs} {x y z : Value} (h : w.heap[b]? = some (.cells (fkC k x y z).toArray t)) : (Instr.loadAt 117 (.pointer (some ⟨b, 0, none⟩))).run Try.prog w = .ok (FK k x y z) w :=
  agg_load (n := 20) (fun w => by kernel_rfl) (fun w => by kernel_rfl) (fkC_length k x y z) (CellsAt.of_blk h)
theorem fk_kids {w : World} {b : Nat} {t : TypeId} {k : Bs} {x y z : Value} (h : w.heap[b]? = some (.cells (fkC k x y z).toArray t)) : (Instr.loadAt 115 (.pointer (some ⟨b, 17, none⟩))).run Try.prog w = .ok (.agg #[x, y, z]) w := by
  have := CellsAt.part (xs := kC k) (ys := [x, y, z]) (zs := []) (by rw [List.append_nil]; exact CellsAt.of_blk h)
  rw [kC_length] at this
  exact agg_load (t := 115) (n := 3) (fun w => by kernel_rfl) (fun w => by kernel_rfl) rfl this
theorem fk_kid {w : World} {b : Nat} {t : TypeId} {k : Bs} {x y z : Value} (h : w.heap[b]? = some (.cells (fkC k x y z).toArray t)) : w.cell? ⟨b, 17, none⟩ = some x ∧ w.cell? ⟨b, 18, none⟩ = some y ∧ w.cell? ⟨b, 19, none⟩ = some z := by
  refine ⟨blk_cell h ?_, blk_cell h ?_, blk_cell h ?_⟩ <;> (rw [fkC, List.getElem?_append_right (by rw [kC_length]; decide), kC_length]; rfl)
theorem armLv {P : Program} {w : World} {ops : Array Oper} {rest : List Oper} {o : Oper} {a : Act} {Q : Exit → Act → World → Prop} (p : Operand) (t : TypeId) (hop : o.op = Op.load t p) (hw : Region.wanted o (yielded ops a.tmps) = true) {vp v : Value} (hp : a.eval p = vp) (hrun : (Instr.loadAt t vp).run P w = .ok v w) (hK : wpList P ops Q rest (a.put o.dst v) w) : wpList P ops Q (o :: rest) a w :=
  arm_load hw p t hop hp hrun hK

set_option maxHeartbeats 4000000 in
set_option maxRecDepth 100000 in
theorem covers_any (p q : Bs) (hp : p.length ≤ 128) (hq : q.length ≤ 128) (w : World) :
    Calls Try.prog 64 #[KV p, KV q] w fun e w' => e = .returned (.bool (pre p q)) ∧ Below w.heap.size w w' := by
  have c := fun w => Cover6_calls (bytN 16 p) p.length (bytN 16 q) q.length w (bytN_fit _ _) (bytN_length _ _) (bytN_fit _ _) (bytN_length _ _) (by omega) (by omega)
  rw [both6_byt hp hq, cov6_byt hq] at c
  simp only [Bool.true_and, if_true] at c
  have HC : Hid (∀ w, Calls Try.prog 75 #[KV p, KV q] w fun e w' => e = .returned (.tuple #[.bool (pre p q), .int .i64 0]) ∧ Below w.heap.size w w') := c
  clear c
  have hB : Below w.heap.size w ((w.alloc (.cells (kC p).toArray 39)).alloc (.cells (kC q).toArray 39)) := ((Below.refl _ w).alloc (Nat.le_refl _) _).alloc (by simp) _
  have b0 := kb0 (blk_alloc (blk_new w (.cells (kC p).toArray 39)) (.cells (kC q).toArray 39))
  have b1 := kb0 (blk_new (w.alloc (.cells (kC p).toArray 39)) (.cells (kC q).toArray 39))
  rw [show (w.alloc (.cells (kC p).toArray 39)).heap.size = w.heap.size + 1 by simp] at b1
  have H0 : Hid _ := kb_key b0
  have H1 : Hid _ := kb_key b1
  clear b0 b1
  generalize pre p q = r at HC ⊢
  go_enter Try.func64, Try.ntmps64
  go_wp2_with first
    | ((with_reducible show wpList _ _ _ _ _ _); refine armLv (.tmp 2) 39 rfl rfl rfl H0.out ?_)
    | ((with_reducible show wpList _ _ _ _ _ _); refine armLv (.tmp 3) 39 rfl rfl rfl H1.out ?_)
  refine Calls.mono (HC.out _) ?_
  rintro e w1 ⟨rfl, hb1⟩
  go_wp2
  go_ret
  exact ⟨rfl, hB.trans (hb1.mono hB.size)⟩
end Go.Proofs.Ytenahbdopgmpfaa

namespace Go.Proofs.Ytenahbdopgmpfaa
open Go Go.RowKit
set_option linter.unusedVariables false
set_option linter.unusedSimpArgs false

abbrev zK : List Value := [.int .u8 0, .int .u8 0, .int .u8 0, .int .u8 0, .int .u8 0, .int .u8 0, .int .u8 0, .int .u8 0, .int .u8 0, .int .u8 0, .int .u8 0, .int .u8 0, .int .u8 0, .int .u8 0, .int .u8 0, .int .u8 0, .int .i64 0]
abbrev zL : List Value := [.int .u8 0, .int .u8 0, .int .u8 0, .int .u8 0, .int .u8 0, .int .u8 0, .int .u8 0, .int .u8 0, .int .u8 0, .int .u8 0, .int .u8 0, .int .u8 0, .int .u8 0, .int .u8 0, .int .u8 0, .int .u8 0, .int .i64 0, .int .i64 0]
abbrev zF : List Value := [.int .u8 0, .int .u8 0, .int .u8 0, .int .u8 0, .int .u8 0, .int .u8 0, .int .u8 0, .int .u8 0, .int .u8 0, .int .u8 0, .int .u8 0, .int .u8 0, .int .u8 0, .int .u8 0, .int .u8 0, .int .u8 0, .int .i64 0, .nilIface, .nilIface, .nilIface]

set_option maxHeartbeats 1000000 in
set_option maxRecDepth 100000 in
theorem leaf_top (k : Bs) (v : Int) (w : World) :
    Calls Try.prog 105 #[LF k v] w fun e w' => e = .returned (KV k) ∧ Below w.heap.size w w' := by
  have b0 := blk_alloc (blk_new w (.cells (lfC k v).toArray 85)) (.cells zK.toArray 39)
  have H0 : Hid _ := kb_key (r := [.int .i64 v]) b0
  obtain ⟨w5, hst, hb5, hB5⟩ := box_new (ty := 39) (n := 17) (fun w => by kernel_rfl) (w.alloc (.cells (lfC k v).toArray 85)) zK rfl (kC k) (kC_length k) (kC_one k)
  have hB : Below w.heap.size w w5 := ((Below.refl _ w).alloc (Nat.le_refl _) _).trans (hB5.mono (by simp))
  rw [show (w.alloc (.cells (lfC k v).toArray 85)).heap.size = w.heap.size + 1 by simp] at hst hb5
  have HST : Hid _ := hst
  have HLV : Hid ((loadVar 39 ⟨w.heap.size + 1, 0, none⟩).run Try.prog w5 = .ok (KV k) w5) := agg_loadVar (n := 17) (fun w => by kernel_rfl) (fun w => by kernel_rfl) (kC_length k) (CellsAt.of_blk hb5)
  clear hst hb5 hB5 b0
  go_enter Try.func105, Try.ntmps105
  go_wp2_with first
    | ((with_reducible show wpList _ _ _ _ _ _); refine armL (.tmp 3) 39 rfl rfl rfl H0.out ?_)
    | ((with_reducible show wpList _ _ _ _ _ _); refine armS (.tmp 2) (.tmp 4) 39 rfl rfl rfl rfl HST.out ?_)
  refine bodyPost_ret (res_cell1 Try.results105 rfl HLV.out) rfl ?_
  exact ⟨rfl, hB⟩
set_option maxHeartbeats 1000000 in
set_option maxRecDepth 100000 in
theorem fork_top (k : Bs) (x y z : Value) (w : World) :
    Calls Try.prog 106 #[FK k x y z] w fun e w' => e = .returned (KV k) ∧ Below w.heap.size w w' := by
  have b0 := blk_alloc (blk_new w (.cells (fkC k x y z).toArray 117)) (.cells zK.toArray 39)
  have H0 : Hid _ := kb_key (r := [x, y, z]) b0
  obtain ⟨w5, hst, hb5, hB5⟩ := box_new (ty := 39) (n := 17) (fun w => by kernel_rfl) (w.alloc (.cells (fkC k x y z).toArray 117)) zK rfl (kC k) (kC_length k) (kC_one k)
  have hB : Below w.heap.size w w5 := ((Below.refl _ w).alloc (Nat.le_refl _) _).trans (hB5.mono (by simp))
  rw [show (w.alloc (.cells (fkC k x y z).toArray 117)).heap.size = w.heap.size + 1 by simp] at hst hb5
  have HST : Hid _ := hst
  have HLV : Hid ((loadVar 39 ⟨w.heap.size + 1, 0, none⟩).run Try.prog w5 = .ok (KV k) w5) := agg_loadVar (n := 17) (fun w => by kernel_rfl) (fun w => by kernel_rfl) (kC_length k) (CellsAt.of_blk hb5)
  clear hst hb5 hB5 b0
  go_enter Try.func106, Try.ntmps106
  go_wp2_with first
    | ((with_reducible show wpList _ _ _ _ _ _); refine armL (.tmp 3) 39 rfl rfl rfl H0.out ?_)
    | ((with_reducible show wpList _ _ _ _ _ _); refine armS (.tmp 2) (.tmp 4) 39 rfl rfl rfl rfl HST.out ?_)
  refine bodyPost_ret (res_cell1 Try.results106 rfl HLV.out) rfl ?_
  exact ⟨rfl, hB⟩

/-- Who is asked what is wanted, and who takes: S l W, that in the world W the entries l have been taken. -/
structure Wan (S : List Ent → World → Prop) (fw : Value) (g : Bs → Bool) : Prop where
  fn : ∃ f lb, fw = .func (.func f) #[] lb ∧ (∀ args w, (callFunc f args).run Try.prog w = .ok (.enter f args) w) ∧
    ∀ l k W, k.length ≤ 128 → S l W → Calls Try.prog f (#[KV k] ++ lb) W fun e w' => e = .returned (.bool (g k)) ∧ Below W.heap.size W w'
structure Tak (S : List Ent → World → Prop) (ft : Value) : Prop where
  keep : ∀ l W W', S l W → Below W.heap.size W W' → S l W'
  fn : ∃ f lb, ft = .func (.func f) #[] lb ∧ (∀ args w, (callFunc f args).run Try.prog w = .ok (.enter f args) w) ∧
    ∀ l k v W, k.length ≤ 128 → S l W → Calls Try.prog f (#[LF k v] ++ lb) W fun e w' => e = .returned (.tuple #[]) ∧ S (l ++ [(k, v)]) w'
def Tr.Ok : Tr → Prop
  | .nil => True
  | .leaf k _ => k.length ≤ 128
  | .fork k a b c => k.length ≤ 128 ∧ a.Ok ∧ b.Ok ∧ c.Ok

set_option maxHeartbeats 1000000 in
set_option maxRecDepth 100000 in
theorem each_nil (fw ft : Value) (w : World) : Calls Try.prog 65 #[.nilIface, fw, ft] w fun e w' => e = .returned (.tuple #[]) ∧ w' = w := by
  go_enter Try.func65, Try.ntmps65
  go_wp2

  go_returns
  exact ⟨rfl, rfl⟩
theorem ta_leaf (x : Value) (w : World) : (Instr.typeAssert (.iface 85 x) 74 85 true).run Try.prog w = .ok (.tuple #[x, .bool true]) w := by kernel_rfl
theorem ta_fork (x : Value) (w : World) : (Instr.typeAssert (.iface 117 x) 74 117 true).run Try.prog w = .ok (.tuple #[x, .bool true]) w := by kernel_rfl
theorem ta_fork_leaf (x : Value) (w : World) : (Instr.typeAssert (.iface 117 x) 74 85 true).run Try.prog w = .ok (.tuple #[.agg zL.toArray, .bool false]) w := by kernel_rfl
theorem ta_leaf_fork (x : Value) (w : World) : (Instr.typeAssert (.iface 85 x) 74 117 true).run Try.prog w = .ok (.tuple #[.agg zF.toArray, .bool false]) w := by kernel_rfl
theorem ta_nil_fork (w : World) : (Instr.typeAssert .nilIface 74 117 true).run Try.prog w = .ok (.tuple #[.agg zF.toArray, .bool false]) w := by kernel_rfl
theorem ix_kids (x y z : Value) (w : World) : (Instr.index 115 (.agg #[x, y, z]) (.int .i64 0)).run Try.prog w = .ok x w ∧ (Instr.index 115 (.agg #[x, y, z]) (.int .i64 1)).run Try.prog w = .ok y w ∧ (Instr.index 115 (.agg #[x, y, z]) (.int .i64 2)).run Try.prog w = .ok z w := ⟨by kernel_rfl, by kernel_rfl, by kernel_rfl⟩
end Go.Proofs.Ytenahbdopgmpfaa
