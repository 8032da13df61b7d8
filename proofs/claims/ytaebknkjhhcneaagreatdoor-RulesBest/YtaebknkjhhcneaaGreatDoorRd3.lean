/-
  Prefix4.
-/
import Derived.Test.YtaebknkjhhcneaaGreatDoorFold25
import Derived.Test.YtaebknkjhhcneaaGreatDoorFold05
import Derived.Test.YtaebknkjhhcneaaGreatDoorShelf
namespace Go.Proofs.YtaebknkjhhcneaaGreatDoor
open Go Go.RowKit
set_option linter.unusedVariables false
set_option linter.unusedSimpArgs false

def Pre.new4 : Pre Dot := ⟨Dot.new, false, ⟨0, false⟩⟩

def prefix4E (l : List UInt8) (x : End (Pre Dot)) : Value :=
  match x with
  | .bad n => .tuple #[P4 0 0 0 0 0, .int .i64 n, .int .i64 20]
  | .good p => if okP4 p.addr.e0 p.addr.e1 p.addr.e2 p.addr.num.value p.num.value then .tuple #[P4 p.addr.e0 p.addr.e1 p.addr.e2 p.addr.num.value p.num.value, .int .i64 0, .int .i64 0] else .tuple #[P4 0 0 0 0 0, .int .i64 (Lib.indexByte l 47), .int .i64 21]

theorem w0_pre (w : World) : PreIn 250 (.pointer (some ⟨w.heap.size + 1, 0, none⟩)) (DotIn (w.heap.size + 1)) 32 (w.heap.size + 2) Pre.new4 (((w.alloc (.cells #[.int .u8 0, .int .u8 0, .int .u8 0, .int .u8 0, .int .i64 0] 63)).alloc (.cells #[.int .u8 0, .int .u8 0, .int .u8 0, .int .i64 0, .int .i64 0, .bool false] 219)).alloc (.cells #[.iface 250 (.pointer (some ⟨w.heap.size + 1, 0, none⟩)), .int .i64 32, .bool false, .int .i64 0, .bool false] 228)) ∧ Below w.heap.size w (((w.alloc (.cells #[.int .u8 0, .int .u8 0, .int .u8 0, .int .u8 0, .int .i64 0] 63)).alloc (.cells #[.int .u8 0, .int .u8 0, .int .u8 0, .int .i64 0, .int .i64 0, .bool false] 219)).alloc (.cells #[.iface 250 (.pointer (some ⟨w.heap.size + 1, 0, none⟩)), .int .i64 32, .bool false, .int .i64 0, .bool false] 228)) ∧ (((w.alloc (.cells #[.int .u8 0, .int .u8 0, .int .u8 0, .int .u8 0, .int .i64 0] 63)).alloc (.cells #[.int .u8 0, .int .u8 0, .int .u8 0, .int .i64 0, .int .i64 0, .bool false] 219)).alloc (.cells #[.iface 250 (.pointer (some ⟨w.heap.size + 1, 0, none⟩)), .int .i64 32, .bool false, .int .i64 0, .bool false] 228)).heap[w.heap.size]? = some (.cells #[.int .u8 0, .int .u8 0, .int .u8 0, .int .u8 0, .int .i64 0] 63) ∧ (((w.alloc (.cells #[.int .u8 0, .int .u8 0, .int .u8 0, .int .u8 0, .int .i64 0] 63)).alloc (.cells #[.int .u8 0, .int .u8 0, .int .u8 0, .int .i64 0, .int .i64 0, .bool false] 219)).alloc (.cells #[.iface 250 (.pointer (some ⟨w.heap.size + 1, 0, none⟩)), .int .i64 32, .bool false, .int .i64 0, .bool false] 228)).heap.size = w.heap.size + 3 := by
  have a0 : (((w.alloc (.cells #[.int .u8 0, .int .u8 0, .int .u8 0, .int .u8 0, .int .i64 0] 63)).alloc (.cells #[.int .u8 0, .int .u8 0, .int .u8 0, .int .i64 0, .int .i64 0, .bool false] 219)).alloc (.cells #[.iface 250 (.pointer (some ⟨w.heap.size + 1, 0, none⟩)), .int .i64 32, .bool false, .int .i64 0, .bool false] 228)).heap[w.heap.size]? = some (.cells #[.int .u8 0, .int .u8 0, .int .u8 0, .int .u8 0, .int .i64 0] 63) := by
    rw [Below.heap_alloc _ _ _ (by simp; omega), Below.heap_alloc _ _ _ (by simp)]
    exact alloc_new _ _
  have a1 : (((w.alloc (.cells #[.int .u8 0, .int .u8 0, .int .u8 0, .int .u8 0, .int .i64 0] 63)).alloc (.cells #[.int .u8 0, .int .u8 0, .int .u8 0, .int .i64 0, .int .i64 0, .bool false] 219)).alloc (.cells #[.iface 250 (.pointer (some ⟨w.heap.size + 1, 0, none⟩)), .int .i64 32, .bool false, .int .i64 0, .bool false] 228)).heap[w.heap.size + 1]? = some (.cells #[.int .u8 0, .int .u8 0, .int .u8 0, .int .i64 0, .int .i64 0, .bool false] 219) := by
    rw [Below.heap_alloc _ _ _ (by simp)]
    exact alloc_new2 _ _ _
  have a2 : (((w.alloc (.cells #[.int .u8 0, .int .u8 0, .int .u8 0, .int .u8 0, .int .i64 0] 63)).alloc (.cells #[.int .u8 0, .int .u8 0, .int .u8 0, .int .i64 0, .int .i64 0, .bool false] 219)).alloc (.cells #[.iface 250 (.pointer (some ⟨w.heap.size + 1, 0, none⟩)), .int .i64 32, .bool false, .int .i64 0, .bool false] 228)).heap[w.heap.size + 2]? = some (.cells #[.iface 250 (.pointer (some ⟨w.heap.size + 1, 0, none⟩)), .int .i64 32, .bool false, .int .i64 0, .bool false] 228) := by
    simpa using alloc_new ((w.alloc (.cells #[.int .u8 0, .int .u8 0, .int .u8 0, .int .u8 0, .int .i64 0] 63)).alloc (.cells #[.int .u8 0, .int .u8 0, .int .u8 0, .int .i64 0, .int .i64 0, .bool false] 219)) (.cells #[.iface 250 (.pointer (some ⟨w.heap.size + 1, 0, none⟩)), .int .i64 32, .bool false, .int .i64 0, .bool false] 228)
  refine ⟨⟨⟨⟨?_, ?_, ?_, ?_, ?_, ?_⟩, Dot.ok_new, ⟨_, a1⟩⟩, ?_, ?_, ?_, ?_, ?_, ⟨by decide, by decide⟩, ⟨_, a2⟩⟩, (((Below.refl _ w).alloc (Nat.le_refl _) _).alloc (by simp) _).alloc (by simp; omega) _, a0, by simp⟩
  all_goals (unfold World.cell?; first | (rw [a1]; rfl) | (rw [a2]; rfl))

theorem pre4_kind (n : Nat) : Kind (preReader dotReader 32) (n + 1) (fun j => j = n + 1 ∨ j = n + 2) 229 (.pointer (some ⟨n + 2, 0, none⟩)) 237 238 (PreIn 250 (.pointer (some ⟨n + 1, 0, none⟩)) (DotIn (n + 1)) 32 (n + 2)) :=
  pre_kind (dot_kind (B := n + 1) (b := n + 1) (Nat.le_refl _)) (by omega) (by omega) (by decide) (dot_frame (by omega))

theorem DotAt.blk {d : Dot} {w w' : World} {b : Nat} (h : DotAt d w b 0) (hb : w'.heap[b]? = w.heap[b]?) : DotAt d w' b 0 := by
  have ec := fun i => World.cell?_of_block (a := ⟨b, i, none⟩) hb
  exact ⟨(ec _).trans h.c0, (ec _).trans h.c1, (ec _).trans h.c2, (ec _).trans h.c3, (ec _).trans h.c4, (ec _).trans h.c5⟩

set_option maxHeartbeats 8000000 in
set_option maxRecDepth 100000 in
theorem prefix4_calls (s : ByteArray) (hs : s.size ≤ 140737488355328) (w : World) :
    Calls Tryz.prog 157 #[.string s] w fun e w' => e = .returned (prefix4E s.data.toList ((preReader dotReader 32).read s.data.toList 0 Pre.new4)) ∧ Below w.heap.size w w' := by
  obtain ⟨hnew, hB0, hres, hsz⟩ := w0_pre w
  have hC := read_calls (pre4_kind w.heap.size) s hs Pre.new4 _ hnew (by rw [hsz]; omega) (fun k hk => by rw [hsz]; omega)
  generalize (preReader dotReader 32).read s.data.toList 0 Pre.new4 = x at hC
  go_enter Tryz.func157, Tryz.ntmps157
  go_wp2_with fail
  generalize (((w.alloc (.cells #[.int .u8 0, .int .u8 0, .int .u8 0, .int .u8 0, .int .i64 0] 63)).alloc (.cells #[.int .u8 0, .int .u8 0, .int .u8 0, .int .i64 0, .int .i64 0, .bool false] 219)).alloc (.cells #[.iface 250 (.pointer (some ⟨w.heap.size + 1, 0, none⟩)), .int .i64 32, .bool false, .int .i64 0, .bool false] 228)) = W0 at hC hnew hB0 hres hsz ⊢
  refine hC.mono ?_
  rintro e W1 ⟨hT, hx⟩
  clear hC hnew
  have hblk := (hT.below.block w.heap.size (Nat.lt_succ_self _)).trans hres
  have z0 : W1.cell? ⟨w.heap.size, 0, none⟩ = some (.int .u8 0) := by simp [World.cell?, hblk]
  have z1 : W1.cell? ⟨w.heap.size, 1, none⟩ = some (.int .u8 0) := by simp [World.cell?, hblk]
  have z2 : W1.cell? ⟨w.heap.size, 2, none⟩ = some (.int .u8 0) := by simp [World.cell?, hblk]
  have z3 : W1.cell? ⟨w.heap.size, 3, none⟩ = some (.int .u8 0) := by simp [World.cell?, hblk]
  have z4 : W1.cell? ⟨w.heap.size, 4, none⟩ = some (.int .i64 0) := by simp [World.cell?, hblk]
  have zf : ∀ i, W1.frozen? ⟨w.heap.size, i, none⟩ = false := Typed.open ⟨_, hblk⟩
  have hB1 : Below w.heap.size w W1 := hB0.trans (hT.below.mono (Nat.le_succ _))
  clear hT hB0 hres hsz
  cases x with
  | bad n =>
    subst hx
    go_wp2
    have hBV : Below w.heap.size w (((((W1.setCell ⟨w.heap.size, 0, none⟩ (.int .u8 0)).setCell ⟨w.heap.size, 1, none⟩ (.int .u8 0)).setCell ⟨w.heap.size, 2, none⟩ (.int .u8 0)).setCell ⟨w.heap.size, 3, none⟩ (.int .u8 0)).setCell ⟨w.heap.size, 4, none⟩ (.int .i64 0)) := (((((hB1.setCell (Nat.le_refl _) _).setCell (Nat.le_refl _) _).setCell (Nat.le_refl _) _).setCell (Nat.le_refl _) _).setCell (Nat.le_refl _) _)
    have f0 : (((((W1.setCell ⟨w.heap.size, 0, none⟩ (.int .u8 0)).setCell ⟨w.heap.size, 1, none⟩ (.int .u8 0)).setCell ⟨w.heap.size, 2, none⟩ (.int .u8 0)).setCell ⟨w.heap.size, 3, none⟩ (.int .u8 0)).setCell ⟨w.heap.size, 4, none⟩ (.int .i64 0)).cell? ⟨w.heap.size, 0, none⟩ = some (.int .u8 0) := by go_cell
    have f1 : (((((W1.setCell ⟨w.heap.size, 0, none⟩ (.int .u8 0)).setCell ⟨w.heap.size, 1, none⟩ (.int .u8 0)).setCell ⟨w.heap.size, 2, none⟩ (.int .u8 0)).setCell ⟨w.heap.size, 3, none⟩ (.int .u8 0)).setCell ⟨w.heap.size, 4, none⟩ (.int .i64 0)).cell? ⟨w.heap.size, 1, none⟩ = some (.int .u8 0) := by go_cell
    have f2 : (((((W1.setCell ⟨w.heap.size, 0, none⟩ (.int .u8 0)).setCell ⟨w.heap.size, 1, none⟩ (.int .u8 0)).setCell ⟨w.heap.size, 2, none⟩ (.int .u8 0)).setCell ⟨w.heap.size, 3, none⟩ (.int .u8 0)).setCell ⟨w.heap.size, 4, none⟩ (.int .i64 0)).cell? ⟨w.heap.size, 2, none⟩ = some (.int .u8 0) := by go_cell
    have f3 : (((((W1.setCell ⟨w.heap.size, 0, none⟩ (.int .u8 0)).setCell ⟨w.heap.size, 1, none⟩ (.int .u8 0)).setCell ⟨w.heap.size, 2, none⟩ (.int .u8 0)).setCell ⟨w.heap.size, 3, none⟩ (.int .u8 0)).setCell ⟨w.heap.size, 4, none⟩ (.int .i64 0)).cell? ⟨w.heap.size, 3, none⟩ = some (.int .u8 0) := by go_cell
    have f4 : (((((W1.setCell ⟨w.heap.size, 0, none⟩ (.int .u8 0)).setCell ⟨w.heap.size, 1, none⟩ (.int .u8 0)).setCell ⟨w.heap.size, 2, none⟩ (.int .u8 0)).setCell ⟨w.heap.size, 3, none⟩ (.int .u8 0)).setCell ⟨w.heap.size, 4, none⟩ (.int .i64 0)).cell? ⟨w.heap.size, 4, none⟩ = some (.int .i64 0) := by go_cell
    generalize (((((W1.setCell ⟨w.heap.size, 0, none⟩ (.int .u8 0)).setCell ⟨w.heap.size, 1, none⟩ (.int .u8 0)).setCell ⟨w.heap.size, 2, none⟩ (.int .u8 0)).setCell ⟨w.heap.size, 3, none⟩ (.int .u8 0)).setCell ⟨w.heap.size, 4, none⟩ (.int .i64 0)) = V at hBV f0 f1 f2 f3 f4 ⊢
    refine bodyPost_ret (by simp [results, Tryz.results157, go_sem, f0, f1, f2, f3, f4]; try rfl) rfl ?_
    exact ⟨rfl, hBV⟩
  | good p =>
    obtain ⟨rfl, hP⟩ := hx
    have HD : Hid _ := hP.inner
    have hok := HD.out.ok
    have b0 := hok.e0
    have HA : Hid (∀ X, Below W1.heap.size W1 X → Calls Tryz.prog 180 #[.pointer (some ⟨w.heap.size + 1, 0, none⟩)] X fun e w' => e = .returned (.agg #[.int .u8 p.addr.e0, .int .u8 p.addr.e1, .int .u8 p.addr.e2, .int .u8 p.addr.num.value]) ∧ Below X.heap.size X w') := fun X hX => by
      obtain ⟨cs, hcs⟩ := HD.out.typed
      exact dot_addr p.addr _ 0 X HD.out.ok (HD.out.cells.blk (hX.block _ (Array.getElem?_eq_some_iff.1 hcs).1))
    have c3 : W1.cell? ⟨w.heap.size + 1 + 1, 3, none⟩ = some (.int .i64 p.num.value) := hP.c3
    have l3 := World.block_lt_of_cell? W1 _ c3
    have lz := World.block_lt_of_cell? W1 _ z0
    have c3a : ∀ o, (W1.alloc o).cell? ⟨w.heap.size + 1 + 1, 3, none⟩ = some (.int .i64 p.num.value) := fun o => (World.cell?_alloc_lt _ _ _ l3).trans c3
    have HZ : Hid _ := hblk
    go_wp2_with fail
    go_region_with (go_at_call 180; (first
      | (refine Calls.mono (HA.out _ (Below.refl _ _).drew) ?_; rintro e W2 ⟨rfl, hB2⟩; have hB3 := ((Below.refl W1.heap.size W1).drew).trans hB2)
      | (refine Calls.mono (HA.out _ (((Below.refl _ _).drew).alloc (Nat.le_refl _) _)) ?_; rintro e W2 ⟨rfl, hB2⟩; have hk := (hB2.block W1.heap.size (by simp)).trans (alloc_new W1.drew _); have hB3 := (((Below.refl W1.heap.size W1).drew).alloc (Nat.le_refl _) _).trans (hB2.mono (by simp)); have k0 : W2.cell? ⟨W1.heap.size, 0, none⟩ = some (.int .u8 0) := (by simp [World.cell?, hk]); have k1 : W2.cell? ⟨W1.heap.size, 1, none⟩ = some (.int .u8 0) := (by simp [World.cell?, hk]); have k2 : W2.cell? ⟨W1.heap.size, 2, none⟩ = some (.int .u8 0) := (by simp [World.cell?, hk]); have k3 : W2.cell? ⟨W1.heap.size, 3, none⟩ = some (.int .u8 0) := (by simp [World.cell?, hk]); have k4 : W2.cell? ⟨W1.heap.size, 4, none⟩ = some (.int .i64 0) := (by simp [World.cell?, hk]); have kf : ∀ i, W2.frozen? ⟨W1.heap.size, i, none⟩ = false := Typed.open ⟨_, hk⟩)); have q3 := (hB3.cell (p := ⟨w.heap.size + 1 + 1, 3, none⟩) l3).trans c3; have q3a : ∀ o, (W2.alloc o).cell? ⟨w.heap.size + 1 + 1, 3, none⟩ = some (.int .i64 p.num.value) := (fun o => (World.cell?_alloc_lt _ _ _ (Nat.lt_of_lt_of_le l3 hB3.size)).trans q3); clear hB2)
    all_goals (first
      | (have kk := k0; have hV : Below W1.heap.size W1 (((((W2.setCell ⟨W1.heap.size, 0, none⟩ (.int .u8 p.addr.e0)).setCell ⟨W1.heap.size, 1, none⟩ (.int .u8 p.addr.e1)).setCell ⟨W1.heap.size, 2, none⟩ (.int .u8 p.addr.e2)).setCell ⟨W1.heap.size, 3, none⟩ (.int .u8 p.addr.num.value)).setCell ⟨W1.heap.size, 4, none⟩ (.int .i64 p.num.value)) := (((((hB3.setCell (Nat.le_refl _) _).setCell (Nat.le_refl _) _).setCell (Nat.le_refl _) _).setCell (Nat.le_refl _) _).setCell (Nat.le_refl _) _); have v0 : (((((W2.setCell ⟨W1.heap.size, 0, none⟩ (.int .u8 p.addr.e0)).setCell ⟨W1.heap.size, 1, none⟩ (.int .u8 p.addr.e1)).setCell ⟨W1.heap.size, 2, none⟩ (.int .u8 p.addr.e2)).setCell ⟨W1.heap.size, 3, none⟩ (.int .u8 p.addr.num.value)).setCell ⟨W1.heap.size, 4, none⟩ (.int .i64 p.num.value)).cell? ⟨W1.heap.size, 0, none⟩ = some (.int .u8 p.addr.e0) := (by go_cell); have v1 : (((((W2.setCell ⟨W1.heap.size, 0, none⟩ (.int .u8 p.addr.e0)).setCell ⟨W1.heap.size, 1, none⟩ (.int .u8 p.addr.e1)).setCell ⟨W1.heap.size, 2, none⟩ (.int .u8 p.addr.e2)).setCell ⟨W1.heap.size, 3, none⟩ (.int .u8 p.addr.num.value)).setCell ⟨W1.heap.size, 4, none⟩ (.int .i64 p.num.value)).cell? ⟨W1.heap.size, 1, none⟩ = some (.int .u8 p.addr.e1) := (by go_cell); have v2 : (((((W2.setCell ⟨W1.heap.size, 0, none⟩ (.int .u8 p.addr.e0)).setCell ⟨W1.heap.size, 1, none⟩ (.int .u8 p.addr.e1)).setCell ⟨W1.heap.size, 2, none⟩ (.int .u8 p.addr.e2)).setCell ⟨W1.heap.size, 3, none⟩ (.int .u8 p.addr.num.value)).setCell ⟨W1.heap.size, 4, none⟩ (.int .i64 p.num.value)).cell? ⟨W1.heap.size, 2, none⟩ = some (.int .u8 p.addr.e2) := (by go_cell); have v3 : (((((W2.setCell ⟨W1.heap.size, 0, none⟩ (.int .u8 p.addr.e0)).setCell ⟨W1.heap.size, 1, none⟩ (.int .u8 p.addr.e1)).setCell ⟨W1.heap.size, 2, none⟩ (.int .u8 p.addr.e2)).setCell ⟨W1.heap.size, 3, none⟩ (.int .u8 p.addr.num.value)).setCell ⟨W1.heap.size, 4, none⟩ (.int .i64 p.num.value)).cell? ⟨W1.heap.size, 3, none⟩ = some (.int .u8 p.addr.num.value) := (by go_cell); have v4 : (((((W2.setCell ⟨W1.heap.size, 0, none⟩ (.int .u8 p.addr.e0)).setCell ⟨W1.heap.size, 1, none⟩ (.int .u8 p.addr.e1)).setCell ⟨W1.heap.size, 2, none⟩ (.int .u8 p.addr.e2)).setCell ⟨W1.heap.size, 3, none⟩ (.int .u8 p.addr.num.value)).setCell ⟨W1.heap.size, 4, none⟩ (.int .i64 p.num.value)).cell? ⟨W1.heap.size, 4, none⟩ = some (.int .i64 p.num.value) := (by go_cell); generalize (((((W2.setCell ⟨W1.heap.size, 0, none⟩ (.int .u8 p.addr.e0)).setCell ⟨W1.heap.size, 1, none⟩ (.int .u8 p.addr.e1)).setCell ⟨W1.heap.size, 2, none⟩ (.int .u8 p.addr.e2)).setCell ⟨W1.heap.size, 3, none⟩ (.int .u8 p.addr.num.value)).setCell ⟨W1.heap.size, 4, none⟩ (.int .i64 p.num.value)) = V at hV v0 v1 v2 v3 v4 ⊢; generalize hb9 : W1.heap.size = b9 at v0 v1 v2 v3 v4 ⊢)
      | (have hV : Below W1.heap.size W1 (W2.alloc (.cells #[.int .u8 p.addr.e0, .int .u8 p.addr.e1, .int .u8 p.addr.e2, .int .u8 p.addr.num.value, .int .i64 p.num.value] 63)) := hB3.alloc hB3.size _; have v0 : (W2.alloc (.cells #[.int .u8 p.addr.e0, .int .u8 p.addr.e1, .int .u8 p.addr.e2, .int .u8 p.addr.num.value, .int .i64 p.num.value] 63)).cell? ⟨W2.heap.size, 0, none⟩ = some (.int .u8 p.addr.e0) := (by go_cell); have v1 : (W2.alloc (.cells #[.int .u8 p.addr.e0, .int .u8 p.addr.e1, .int .u8 p.addr.e2, .int .u8 p.addr.num.value, .int .i64 p.num.value] 63)).cell? ⟨W2.heap.size, 1, none⟩ = some (.int .u8 p.addr.e1) := (by go_cell); have v2 : (W2.alloc (.cells #[.int .u8 p.addr.e0, .int .u8 p.addr.e1, .int .u8 p.addr.e2, .int .u8 p.addr.num.value, .int .i64 p.num.value] 63)).cell? ⟨W2.heap.size, 2, none⟩ = some (.int .u8 p.addr.e2) := (by go_cell); have v3 : (W2.alloc (.cells #[.int .u8 p.addr.e0, .int .u8 p.addr.e1, .int .u8 p.addr.e2, .int .u8 p.addr.num.value, .int .i64 p.num.value] 63)).cell? ⟨W2.heap.size, 3, none⟩ = some (.int .u8 p.addr.num.value) := (by go_cell); have v4 : (W2.alloc (.cells #[.int .u8 p.addr.e0, .int .u8 p.addr.e1, .int .u8 p.addr.e2, .int .u8 p.addr.num.value, .int .i64 p.num.value] 63)).cell? ⟨W2.heap.size, 4, none⟩ = some (.int .i64 p.num.value) := (by go_cell); generalize (W2.alloc (.cells #[.int .u8 p.addr.e0, .int .u8 p.addr.e1, .int .u8 p.addr.e2, .int .u8 p.addr.num.value, .int .i64 p.num.value] 63)) = V at hV v0 v1 v2 v3 v4 ⊢; generalize W2.heap.size = b9 at v0 v1 v2 v3 v4 ⊢))
    all_goals
      have x0 := (hV.cell (p := ⟨w.heap.size, 0, none⟩) lz).trans z0
      have x1 := (hV.cell (p := ⟨w.heap.size, 1, none⟩) lz).trans z1
      have x2 := (hV.cell (p := ⟨w.heap.size, 2, none⟩) lz).trans z2
      have x3 := (hV.cell (p := ⟨w.heap.size, 3, none⟩) lz).trans z3
      have x4 := (hV.cell (p := ⟨w.heap.size, 4, none⟩) lz).trans z4
      have xf : ∀ i, V.frozen? ⟨w.heap.size, i, none⟩ = false := fun i => (hV.frozen (p := ⟨w.heap.size, i, none⟩) lz).trans (zf i)
      have hBV1 : Below w.heap.size w V := hB1.trans (hV.mono hB1.size)
      have HC : Hid _ := Check4_calls p.addr.e0 p.addr.e1 p.addr.e2 p.addr.num.value p.num.value V hok.e0 hok.e1 hok.e2 ⟨hok.num.1, by have := hok.num.2; omega⟩ ⟨by have := hP.ok.1; omega, by have := hP.ok.2; omega⟩
      clear z0 z1 z2 z3 z4 zf c3 c3a q3 q3a hV HA
      go_wp2_with fail
      refine Calls.mono HC.out ?_
      rintro e W4 ⟨rfl, hB4⟩
      have t9 := World.block_lt_of_cell? V _ v0
      have tz := World.block_lt_of_cell? V _ x0
      have u0 := (hB4.cell (p := ⟨b9, 0, none⟩) t9).trans v0
      have u1 := (hB4.cell (p := ⟨b9, 1, none⟩) t9).trans v1
      have u2 := (hB4.cell (p := ⟨b9, 2, none⟩) t9).trans v2
      have u3 := (hB4.cell (p := ⟨b9, 3, none⟩) t9).trans v3
      have u4 := (hB4.cell (p := ⟨b9, 4, none⟩) t9).trans v4
      have s0 := (hB4.cell (p := ⟨w.heap.size, 0, none⟩) tz).trans x0
      have s1 := (hB4.cell (p := ⟨w.heap.size, 1, none⟩) tz).trans x1
      have s2 := (hB4.cell (p := ⟨w.heap.size, 2, none⟩) tz).trans x2
      have s3 := (hB4.cell (p := ⟨w.heap.size, 3, none⟩) tz).trans x3
      have s4 := (hB4.cell (p := ⟨w.heap.size, 4, none⟩) tz).trans x4
      have sf : ∀ i, W4.frozen? ⟨w.heap.size, i, none⟩ = false := fun i => (hB4.frozen (p := ⟨w.heap.size, i, none⟩) tz).trans (xf i)
      have hB5 : Below w.heap.size w W4 := hBV1.trans (hB4.mono hBV1.size)
      clear x0 x1 x2 x3 x4 xf v0 v1 v2 v3 v4 hBV1 hB4 HC
      cases hq : okP4 p.addr.e0 p.addr.e1 p.addr.e2 p.addr.num.value p.num.value
      · have hE : prefix4E s.data.toList (.good p) = .tuple #[P4 0 0 0 0 0, .int .i64 (Lib.indexByte s.data.toList 47), .int .i64 21] := by
          unfold prefix4E
          dsimp only
          rw [hq]
          rfl
        have HI : Hid _ := Tryz.strings_IndexByte s 47 W4
        have HE : Hid _ := hE
        clear hE
        simp only [Bool.false_eq_true, if_false]
        go_wp2_with fail
        refine Calls.mono HI.out ?_
        rintro e W5 ⟨rfl, rfl⟩
        go_wp2
        have hBV : Below w.heap.size w (((((W5.setCell ⟨w.heap.size, 0, none⟩ (.int .u8 0)).setCell ⟨w.heap.size, 1, none⟩ (.int .u8 0)).setCell ⟨w.heap.size, 2, none⟩ (.int .u8 0)).setCell ⟨w.heap.size, 3, none⟩ (.int .u8 0)).setCell ⟨w.heap.size, 4, none⟩ (.int .i64 0)) := (((((hB5.setCell (Nat.le_refl _) _).setCell (Nat.le_refl _) _).setCell (Nat.le_refl _) _).setCell (Nat.le_refl _) _).setCell (Nat.le_refl _) _)
        have f0 : (((((W5.setCell ⟨w.heap.size, 0, none⟩ (.int .u8 0)).setCell ⟨w.heap.size, 1, none⟩ (.int .u8 0)).setCell ⟨w.heap.size, 2, none⟩ (.int .u8 0)).setCell ⟨w.heap.size, 3, none⟩ (.int .u8 0)).setCell ⟨w.heap.size, 4, none⟩ (.int .i64 0)).cell? ⟨w.heap.size, 0, none⟩ = some (.int .u8 0) := by go_cell
        have f1 : (((((W5.setCell ⟨w.heap.size, 0, none⟩ (.int .u8 0)).setCell ⟨w.heap.size, 1, none⟩ (.int .u8 0)).setCell ⟨w.heap.size, 2, none⟩ (.int .u8 0)).setCell ⟨w.heap.size, 3, none⟩ (.int .u8 0)).setCell ⟨w.heap.size, 4, none⟩ (.int .i64 0)).cell? ⟨w.heap.size, 1, none⟩ = some (.int .u8 0) := by go_cell
        have f2 : (((((W5.setCell ⟨w.heap.size, 0, none⟩ (.int .u8 0)).setCell ⟨w.heap.size, 1, none⟩ (.int .u8 0)).setCell ⟨w.heap.size, 2, none⟩ (.int .u8 0)).setCell ⟨w.heap.size, 3, none⟩ (.int .u8 0)).setCell ⟨w.heap.size, 4, none⟩ (.int .i64 0)).cell? ⟨w.heap.size, 2, none⟩ = some (.int .u8 0) := by go_cell
        have f3 : (((((W5.setCell ⟨w.heap.size, 0, none⟩ (.int .u8 0)).setCell ⟨w.heap.size, 1, none⟩ (.int .u8 0)).setCell ⟨w.heap.size, 2, none⟩ (.int .u8 0)).setCell ⟨w.heap.size, 3, none⟩ (.int .u8 0)).setCell ⟨w.heap.size, 4, none⟩ (.int .i64 0)).cell? ⟨w.heap.size, 3, none⟩ = some (.int .u8 0) := by go_cell
        have f4 : (((((W5.setCell ⟨w.heap.size, 0, none⟩ (.int .u8 0)).setCell ⟨w.heap.size, 1, none⟩ (.int .u8 0)).setCell ⟨w.heap.size, 2, none⟩ (.int .u8 0)).setCell ⟨w.heap.size, 3, none⟩ (.int .u8 0)).setCell ⟨w.heap.size, 4, none⟩ (.int .i64 0)).cell? ⟨w.heap.size, 4, none⟩ = some (.int .i64 0) := by go_cell
        generalize (((((W5.setCell ⟨w.heap.size, 0, none⟩ (.int .u8 0)).setCell ⟨w.heap.size, 1, none⟩ (.int .u8 0)).setCell ⟨w.heap.size, 2, none⟩ (.int .u8 0)).setCell ⟨w.heap.size, 3, none⟩ (.int .u8 0)).setCell ⟨w.heap.size, 4, none⟩ (.int .i64 0)) = V at hBV f0 f1 f2 f3 f4 ⊢
        refine bodyPost_ret (by simp [results, Tryz.results157, go_sem, f0, f1, f2, f3, f4]; try rfl) rfl ?_
        exact ⟨by rw [HE.out], hBV⟩
      · have hE : prefix4E s.data.toList (.good p) = .tuple #[P4 p.addr.e0 p.addr.e1 p.addr.e2 p.addr.num.value p.num.value, .int .i64 0, .int .i64 0] := by
          unfold prefix4E
          dsimp only
          rw [hq]
          rfl
        have HE : Hid _ := hE
        clear hE
        simp only [if_true]
        go_wp2
        have hBV : Below w.heap.size w (((((W4.setCell ⟨w.heap.size, 0, none⟩ (.int .u8 p.addr.e0)).setCell ⟨w.heap.size, 1, none⟩ (.int .u8 p.addr.e1)).setCell ⟨w.heap.size, 2, none⟩ (.int .u8 p.addr.e2)).setCell ⟨w.heap.size, 3, none⟩ (.int .u8 p.addr.num.value)).setCell ⟨w.heap.size, 4, none⟩ (.int .i64 p.num.value)) := (((((hB5.setCell (Nat.le_refl _) _).setCell (Nat.le_refl _) _).setCell (Nat.le_refl _) _).setCell (Nat.le_refl _) _).setCell (Nat.le_refl _) _)
        have f0 : (((((W4.setCell ⟨w.heap.size, 0, none⟩ (.int .u8 p.addr.e0)).setCell ⟨w.heap.size, 1, none⟩ (.int .u8 p.addr.e1)).setCell ⟨w.heap.size, 2, none⟩ (.int .u8 p.addr.e2)).setCell ⟨w.heap.size, 3, none⟩ (.int .u8 p.addr.num.value)).setCell ⟨w.heap.size, 4, none⟩ (.int .i64 p.num.value)).cell? ⟨w.heap.size, 0, none⟩ = some (.int .u8 p.addr.e0) := by go_cell
        have f1 : (((((W4.setCell ⟨w.heap.size, 0, none⟩ (.int .u8 p.addr.e0)).setCell ⟨w.heap.size, 1, none⟩ (.int .u8 p.addr.e1)).setCell ⟨w.heap.size, 2, none⟩ (.int .u8 p.addr.e2)).setCell ⟨w.heap.size, 3, none⟩ (.int .u8 p.addr.num.value)).setCell ⟨w.heap.size, 4, none⟩ (.int .i64 p.num.value)).cell? ⟨w.heap.size, 1, none⟩ = some (.int .u8 p.addr.e1) := by go_cell
        have f2 : (((((W4.setCell ⟨w.heap.size, 0, none⟩ (.int .u8 p.addr.e0)).setCell ⟨w.heap.size, 1, none⟩ (.int .u8 p.addr.e1)).setCell ⟨w.heap.size, 2, none⟩ (.int .u8 p.addr.e2)).setCell ⟨w.heap.size, 3, none⟩ (.int .u8 p.addr.num.value)).setCell ⟨w.heap.size, 4, none⟩ (.int .i64 p.num.value)).cell? ⟨w.heap.size, 2, none⟩ = some (.int .u8 p.addr.e2) := by go_cell
        have f3 : (((((W4.setCell ⟨w.heap.size, 0, none⟩ (.int .u8 p.addr.e0)).setCell ⟨w.heap.size, 1, none⟩ (.int .u8 p.addr.e1)).setCell ⟨w.heap.size, 2, none⟩ (.int .u8 p.addr.e2)).setCell ⟨w.heap.size, 3, none⟩ (.int .u8 p.addr.num.value)).setCell ⟨w.heap.size, 4, none⟩ (.int .i64 p.num.value)).cell? ⟨w.heap.size, 3, none⟩ = some (.int .u8 p.addr.num.value) := by go_cell
        have f4 : (((((W4.setCell ⟨w.heap.size, 0, none⟩ (.int .u8 p.addr.e0)).setCell ⟨w.heap.size, 1, none⟩ (.int .u8 p.addr.e1)).setCell ⟨w.heap.size, 2, none⟩ (.int .u8 p.addr.e2)).setCell ⟨w.heap.size, 3, none⟩ (.int .u8 p.addr.num.value)).setCell ⟨w.heap.size, 4, none⟩ (.int .i64 p.num.value)).cell? ⟨w.heap.size, 4, none⟩ = some (.int .i64 p.num.value) := by go_cell
        generalize (((((W4.setCell ⟨w.heap.size, 0, none⟩ (.int .u8 p.addr.e0)).setCell ⟨w.heap.size, 1, none⟩ (.int .u8 p.addr.e1)).setCell ⟨w.heap.size, 2, none⟩ (.int .u8 p.addr.e2)).setCell ⟨w.heap.size, 3, none⟩ (.int .u8 p.addr.num.value)).setCell ⟨w.heap.size, 4, none⟩ (.int .i64 p.num.value)) = V at hBV f0 f1 f2 f3 f4 ⊢
        refine bodyPost_ret (by simp [results, Tryz.results157, go_sem, f0, f1, f2, f3, f4]; try rfl) rfl ?_
        exact ⟨by rw [HE.out], hBV⟩

end Go.Proofs.YtaebknkjhhcneaaGreatDoor
