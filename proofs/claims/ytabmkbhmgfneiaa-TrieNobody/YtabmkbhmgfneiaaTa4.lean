/-
  top; each over any tree, whatever is wanted and whoever takes.
-/
import Derived.Handy
import Derived.Test.YtabmkbhmgfneiaaTa3
namespace Go.Proofs.Ytabmkbhmgfneiaa
open Go Go.RowKit
set_option linter.unusedVariables false
set_option linter.unusedSimpArgs false

abbrev zK : List Value := [.int .u8 0, .int .u8 0, .int .u8 0, .int .u8 0, .int .u8 0, .int .u8 0, .int .u8 0, .int .u8 0, .int .u8 0, .int .u8 0, .int .u8 0, .int .u8 0, .int .u8 0, .int .u8 0, .int .u8 0, .int .u8 0, .int .i64 0]
abbrev zL : List Value := [.int .u8 0, .int .u8 0, .int .u8 0, .int .u8 0, .int .u8 0, .int .u8 0, .int .u8 0, .int .u8 0, .int .u8 0, .int .u8 0, .int .u8 0, .int .u8 0, .int .u8 0, .int .u8 0, .int .u8 0, .int .u8 0, .int .i64 0, .int .i64 0]
abbrev zF : List Value := [.int .u8 0, .int .u8 0, .int .u8 0, .int .u8 0, .int .u8 0, .int .u8 0, .int .u8 0, .int .u8 0, .int .u8 0, .int .u8 0, .int .u8 0, .int .u8 0, .int .u8 0, .int .u8 0, .int .u8 0, .int .u8 0, .int .i64 0, .nilIface, .nilIface, .nilIface]

set_option maxHeartbeats 1000000 in
set_option maxRecDepth 100000 in
theorem leaf_top (k : Bs) (v : Int) (w : World) :
    Calls Try.prog 105 #[LF k v] w fun e w' => e = .returned (KV k) ∧ Below w.heap.size w w' := by
  have b0 := blk_alloc (blk_new w (.cells (lfC k v).toArray 85)) (.cells zK.toArray 39)
  have H0 : Hid _ := kb_key (r := [.int .i64 v]) b0
  obtain ⟨w5, hst, hb5, hB5⟩ := box_new (ty := 39) (n := 17) (fun w => by kernel_rfl) (w.alloc (.cells (lfC k v).toArray 85)) zK rfl (kC k) (kC_length k) (kC_one k)
  have hB : Below w.heap.size w w5 := ((Below.refl _ w).alloc (Nat.le_refl _) _).trans (hB5.mono (by simp))
  rw [show (w.alloc (.cells (lfC k v).toArray 85)).heap.size = w.heap.size + 1 by simp] at hst hb5
  have HST : Hid _ := hst
  have HLV : Hid ((loadVar 39 ⟨w.heap.size + 1, 0, none⟩).run Try.prog w5 = .ok (KV k) w5) := agg_loadVar (n := 17) (fun w => by kernel_rfl) (fun w => by kernel_rfl) (kC_length k) (CellsAt.of_blk hb5)
  clear hst hb5 hB5 b0
  go_enter Try.func105, Try.ntmps105
  go_wp2_with first
    | ((with_reducible show wpList _ _ _ _ _ _); refine armL (.tmp 3) 39 rfl rfl rfl H0.out ?_)
    | ((with_reducible show wpList _ _ _ _ _ _); refine armS (.tmp 2) (.tmp 4) 39 rfl rfl rfl rfl HST.out ?_)
  refine bodyPost_ret (res_cell1 Try.results105 rfl HLV.out) rfl ?_
  exact ⟨rfl, hB⟩
set_option maxHeartbeats 1000000 in
set_option maxRecDepth 100000 in
theorem fork_top (k : Bs) (x y z : Value) (w : World) :
    Calls Try.prog 106 #[FK k x y z] w fun e w' => e = .returned (KV k) ∧ Below w.heap.size w w' := by
  have b0 := blk_alloc (blk_new w (.cells (fkC k x y z).toArray 117)) (.cells zK.toArray 39)
  have H0 : Hid _ := kb_key (r := [x, y, z]) b0
  obtain ⟨w5, hst, hb5, hB5⟩ := box_new (ty := 39) (n := 17) (fun w => by kernel_rfl) (w.alloc (.cells (fkC k x y z).toArray 117)) zK rfl (kC k) (kC_length k) (kC_one k)
  have hB : Below w.heap.size w w5 := ((Below.refl _ w).alloc (Nat.le_refl _) _).trans (hB5.mono (by simp))
  rw [show (w.alloc (.cells (fkC k x y z).toArray 117)).heap.size = w.heap.size + 1 by simp] at hst hb5
  have HST : Hid _ := hst
  have HLV : Hid ((loadVar 39 ⟨w.heap.size + 1, 0, none⟩).run Try.prog w5 = .ok (KV k) w5) := agg_loadVar (n := 17) (fun w => by kernel_rfl) (fun w => by kernel_rfl) (kC_length k) (CellsAt.of_blk hb5)
  clear hst hb5 hB5 b0
  go_enter Try.func106, Try.ntmps106
  go_wp2_with first
    | ((with_reducible show wpList _ _ _ _ _ _); refine armL (.tmp 3) 39 rfl rfl rfl H0.out ?_)
    | ((with_reducible show wpList _ _ _ _ _ _); refine armS (.tmp 2) (.tmp 4) 39 rfl rfl rfl rfl HST.out ?_)
  refine bodyPost_ret (res_cell1 Try.results106 rfl HLV.out) rfl ?_
  exact ⟨rfl, hB⟩

/-- Who is asked what is wanted, and who takes: S l W, that in the world W the entries l have been taken. -/
structure Wan (S : List Ent → World → Prop) (fw : Value) (g : Bs → Bool) : Prop where
  fn : ∃ f lb, fw = .func (.func f) #[] lb ∧ (∀ args w, (callFunc f args).run Try.prog w = .ok (.enter f args) w) ∧
    ∀ l k W, k.length ≤ 128 → S l W → Calls Try.prog f (#[KV k] ++ lb) W fun e w' => e = .returned (.bool (g k)) ∧ Below W.heap.size W w'
structure Tak (S : List Ent → World → Prop) (ft : Value) : Prop where
  keep : ∀ l W W', S l W → Below W.heap.size W W' → S l W'
  fn : ∃ f lb, ft = .func (.func f) #[] lb ∧ (∀ args w, (callFunc f args).run Try.prog w = .ok (.enter f args) w) ∧
    ∀ l k v W, k.length ≤ 128 → S l W → Calls Try.prog f (#[LF k v] ++ lb) W fun e w' => e = .returned (.tuple #[]) ∧ S (l ++ [(k, v)]) w'
def Tr.Ok : Tr → Prop
  | .nil => True
  | .leaf k _ => k.length ≤ 128
  | .fork k a b c => k.length ≤ 128 ∧ a.Ok ∧ b.Ok ∧ c.Ok

set_option maxHeartbeats 1000000 in
set_option maxRecDepth 100000 in
theorem each_nil (fw ft : Value) (w : World) : Calls Try.prog 65 #[.nilIface, fw, ft] w fun e w' => e = .returned (.tuple #[]) ∧ w' = w := by
  go_enter Try.func65, Try.ntmps65
  go_wp2

  go_returns
  exact ⟨rfl, rfl⟩
theorem ta_leaf (x : Value) (w : World) : (Instr.typeAssert (.iface 85 x) 74 85 true).run Try.prog w = .ok (.tuple #[x, .bool true]) w := by kernel_rfl
theorem ta_fork (x : Value) (w : World) : (Instr.typeAssert (.iface 117 x) 74 117 true).run Try.prog w = .ok (.tuple #[x, .bool true]) w := by kernel_rfl
theorem ta_fork_leaf (x : Value) (w : World) : (Instr.typeAssert (.iface 117 x) 74 85 true).run Try.prog w = .ok (.tuple #[.agg zL.toArray, .bool false]) w := by kernel_rfl
theorem ta_leaf_fork (x : Value) (w : World) : (Instr.typeAssert (.iface 85 x) 74 117 true).run Try.prog w = .ok (.tuple #[.agg zF.toArray, .bool false]) w := by kernel_rfl
theorem ta_nil_fork (w : World) : (Instr.typeAssert .nilIface 74 117 true).run Try.prog w = .ok (.tuple #[.agg zF.toArray, .bool false]) w := by kernel_rfl
theorem ix_kids (x y z : Value) (w : World) : (Instr.index 115 (.agg #[x, y, z]) (.int .i64 0)).run Try.prog w = .ok x w ∧ (Instr.index 115 (.agg #[x, y, z]) (.int .i64 1)).run Try.prog w = .ok y w ∧ (Instr.index 115 (.agg #[x, y, z]) (.int .i64 2)).run Try.prog w = .ok z w := ⟨by kernel_rfl, by kernel_rfl, by kernel_rfl⟩
end Go.Proofs.Ytabmkbhmgfneiaa
