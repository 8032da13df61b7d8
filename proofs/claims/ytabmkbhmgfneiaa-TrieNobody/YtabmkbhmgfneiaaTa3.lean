/-
  Trees as values, their boxes; covers, top.
-/
import Derived.Test.YtabmkbhmgfneiaaTa2
import Derived.Test.YtabmkbhmgfneiaaQbx
namespace Go.Proofs.Ytabmkbhmgfneiaa
open Go Go.RowKit
set_option linter.unusedVariables false
set_option linter.unusedSimpArgs false

def kC (k : Bs) : List Value := cp6 (bytN 16 k) k.length
abbrev KV (k : Bs) : Value := .agg (kC k).toArray
theorem kC_length (k : Bs) : (kC k).length = 17 := cp6_length _ _ (bytN_length _ _)
theorem kC_one (k : Bs) : ∀ v ∈ kC k, v.oneCell' = true := cp6_one _ _
theorem kC_def (k : Bs) : kC k = u8s (bytN 16 k) ++ [Value.int .i64 k.length] := rfl
def lfC (k : Bs) (v : Int) : List Value := kC k ++ [.int .i64 v]
abbrev LF (k : Bs) (v : Int) : Value := .agg (lfC k v).toArray
def fkC (k : Bs) (a b c : Value) : List Value := kC k ++ [a, b, c]
abbrev FK (k : Bs) (a b c : Value) : Value := .agg (fkC k a b c).toArray
theorem lfC_length (k : Bs) (v : Int) : (lfC k v).length = 18 := by simp [lfC, kC_length]
theorem fkC_length (k : Bs) (a b c : Value) : (fkC k a b c).length = 20 := by simp [fkC, kC_length]
theorem lfC_one (k : Bs) (v : Int) : ∀ u ∈ lfC k v, u.oneCell' = true := by
  intro u hu
  rcases List.mem_append.1 hu with h | h
  · exact kC_one k u h
  · rw [List.mem_singleton.1 h]; rfl
theorem fkC_one (k : Bs) {a b c : Value} (ha : a.oneCell' = true) (hb : b.oneCell' = true) (hc : c.oneCell' = true) : ∀ u ∈ fkC k a b c, u.oneCell' = true := by
  intro u hu
  rcases List.mem_append.1 hu with h | h
  · exact kC_one k u h
  · simp at h
    rcases h with rfl | rfl | rfl <;> assumption
def enc : Tr → Value
  | .nil => .nilIface
  | .leaf k v => .iface 85 (LF k v)
  | .fork k a b c => .iface 117 (FK k (enc a) (enc b) (enc c))
theorem enc_one (t : Tr) : (enc t).oneCell' = true := by cases t <;> rfl

/-- What lies in a box that begins with a key. -/
theorem kb_key {w : World} {b : Nat} {t : TypeId} {k : Bs} {r : List Value} (h : w.heap[b]? = some (.cells (kC k ++ r).toArray t)) : (Instr.loadAt 39 (.pointer (some ⟨b, 0, none⟩))).run Try.prog w = .ok (KV k) w :=
  agg_load (n := 17) (fun w => by kernel_rfl) (fun w => by kernel_rfl) (kC_length k) (CellsAt.fst (CellsAt.of_blk h))
theorem kb_addr {w : World} {b : Nat} {t : TypeId} {k : Bs} {r : List Value} (h : w.heap[b]? = some (.cells (kC k ++ r).toArray t)) : (Instr.loadAt 37 (.pointer (some ⟨b, 0, none⟩))).run Try.prog w = .ok (A6 (bytN 16 k)) w :=
  agg_load (n := 16) (fun w => by kernel_rfl) (fun w => by kernel_rfl) (by rw [u8s_length, bytN_length]) (CellsAt.fst (ys := [Value.int .i64 k.length]) (CellsAt.fst (CellsAt.of_blk h)))
theorem kb_len {w : World} {b : Nat} {t : TypeId} {k : Bs} {r : List Value} (h : w.heap[b]? = some (.cells (kC k ++ r).toArray t)) : w.cell? ⟨b, 16, none⟩ = some (.int .i64 k.length) :=
  blk_cell h (by rw [List.getElem?_append_left (by rw [kC_length]; decide), kC_def, List.getElem?_append_right (by rw [u8s_length, bytN_length]; decide), u8s_length, bytN_length]; rfl)
theorem kb_byte {w : World} {b : Nat} {t : TypeId} {k : Bs} {r : List Value} (h : w.heap[b]? = some (.cells (kC k ++ r).toArray t)) (i : Nat) (hi : i < 16) : w.cell? ⟨b, i, none⟩ = some (.int .u8 (byteV k i : Nat)) :=
  blk_cell h (by rw [List.getElem?_append_left (by rw [kC_length]; omega), kC_def, List.getElem?_append_left (by rw [u8s_length, bytN_length]; omega)]; simp [u8s, bytN, hi])
theorem kb0 {w : World} {b : Nat} {t : TypeId} {k : Bs} (h : w.heap[b]? = some (.cells (kC k).toArray t)) : w.heap[b]? = some (.cells (kC k ++ []).toArray t) := by rw [List.append_nil]; exact h
theorem lf_load {w : World} {b : Nat} {t : TypeId} {k : Bs} {v : Int} (h : w.heap[b]? = some (.cells (lfC k v).toArray t)) : (Instr.loadAt 85 (.pointer (some ⟨b, 0, none⟩))).run Try.prog w = .ok (LF k v) w :=
  agg_load (n := 18) (fun w => by kernel_rfl) (fun w => by kernel_rfl) (lfC_length k v) (CellsAt.of_blk h)
theorem lf_val {w : World} {b : Nat} {t : TypeId} {k : Bs} {v : Int} (h : w.heap[b]? = some (.cells (lfC k v).toArray t)) : w.cell? ⟨b, 17, none⟩ = some (.int .i64 v) :=
  blk_cell h (by rw [lfC, List.getElem?_append_right (by rw [kC_length]; decide), kC_length]; rfl)
theorem fk_load {w : World} {b : Nat} {t : TypeId} {k : Bs} {x y z : Value} (h : w.heap[b]? = some (.cells (fkC k x y z).toArray t)) : (Instr.loadAt 117 (.pointer (some ⟨b, 0, none⟩))).run Try.prog w = .ok (FK k x y z) w :=
  agg_load (n := 20) (fun w => by kernel_rfl) (fun w => by kernel_rfl) (fkC_length k x y z) (CellsAt.of_blk h)
theorem fk_kids {w : World} {b : Nat} {t : TypeId} {k : Bs} {x y z : Value} (h : w.heap[b]? = some (.cells (fkC k x y z).toArray t)) : (Instr.loadAt 115 (.pointer (some ⟨b, 17, none⟩))).run Try.prog w = .ok (.agg #[x, y, z]) w := by
  have := CellsAt.part (xs := kC k) (ys := [x, y, z]) (zs := []) (by rw [List.append_nil]; exact CellsAt.of_blk h)
  rw [kC_length] at this
  exact agg_load (t := 115) (n := 3) (fun w => by kernel_rfl) (fun w => by kernel_rfl) rfl this
theorem fk_kid {w : World} {b : Nat} {t : TypeId} {k : Bs} {x y z : Value} (h : w.heap[b]? = some (.cells (fkC k x y z).toArray t)) : w.cell? ⟨b, 17, none⟩ = some x ∧ w.cell? ⟨b, 18, none⟩ = some y ∧ w.cell? ⟨b, 19, none⟩ = some z := by
  refine ⟨blk_cell h ?_, blk_cell h ?_, blk_cell h ?_⟩ <;> (rw [fkC, List.getElem?_append_right (by rw [kC_length]; decide), kC_length]; rfl)
theorem armLv {P : Program} {w : World} {ops : Array Oper} {rest : List Oper} {o : Oper} {a : Act} {Q : Exit → Act → World → Prop} (p : Operand) (t : TypeId) (hop : o.op = Op.load t p) (hw : Region.wanted o (yielded ops a.tmps) = true) {vp v : Value} (hp : a.eval p = vp) (hrun : (Instr.loadAt t vp).run P w = .ok v w) (hK : wpList P ops Q rest (a.put o.dst v) w) : wpList P ops Q (o :: rest) a w :=
  arm_load hw p t hop hp hrun hK

set_option maxHeartbeats 4000000 in
set_option maxRecDepth 100000 in
theorem covers_any (p q : Bs) (hp : p.length ≤ 128) (hq : q.length ≤ 128) (w : World) :
    Calls Try.prog 64 #[KV p, KV q] w fun e w' => e = .returned (.bool (pre p q)) ∧ Below w.heap.size w w' := by
  have c := fun w => Cover6_calls (bytN 16 p) p.length (bytN 16 q) q.length w (bytN_fit _ _) (bytN_length _ _) (bytN_fit _ _) (bytN_length _ _) (by omega) (by omega)
  rw [both6_byt hp hq, cov6_byt hq] at c
  simp only [Bool.true_and, if_true] at c
  have HC : Hid (∀ w, Calls Try.prog 75 #[KV p, KV q] w fun e w' => e = .returned (.tuple #[.bool (pre p q), .int .i64 0]) ∧ Below w.heap.size w w') := c
  clear c
  have hB : Below w.heap.size w ((w.alloc (.cells (kC p).toArray 39)).alloc (.cells (kC q).toArray 39)) := ((Below.refl _ w).alloc (Nat.le_refl _) _).alloc (by simp) _
  have b0 := kb0 (blk_alloc (blk_new w (.cells (kC p).toArray 39)) (.cells (kC q).toArray 39))
  have b1 := kb0 (blk_new (w.alloc (.cells (kC p).toArray 39)) (.cells (kC q).toArray 39))
  rw [show (w.alloc (.cells (kC p).toArray 39)).heap.size = w.heap.size + 1 by simp] at b1
  have H0 : Hid _ := kb_key b0
  have H1 : Hid _ := kb_key b1
  clear b0 b1
  generalize pre p q = r at HC ⊢
  go_enter Try.func64, Try.ntmps64
  go_wp2_with first
    | ((with_reducible show wpList _ _ _ _ _ _); refine armLv (.tmp 2) 39 rfl rfl rfl H0.out ?_)
    | ((with_reducible show wpList _ _ _ _ _ _); refine armLv (.tmp 3) 39 rfl rfl rfl H1.out ?_)
  refine Calls.mono (HC.out _) ?_
  rintro e w1 ⟨rfl, hb1⟩
  go_wp2
  go_ret
  exact ⟨rfl, hB.trans (hb1.mono hB.size)⟩
end Go.Proofs.Ytabmkbhmgfneiaa
