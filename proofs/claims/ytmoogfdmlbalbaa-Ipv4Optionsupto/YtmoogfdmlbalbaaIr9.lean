/-
  The document's reader of IPv4 datagrams: where bytes are none.
-/
import Derived.Test.YtmoogfdmlbalbaaIr8
import Derived.Deep.RegionHeld3
namespace Go.Proofs.Ytmoogfdmlbalbaa
open Go Go.RowKit
set_option linter.unusedVariables false
set_option linter.unusedSimpArgs false

theorem res3t {P : Program} {fn : Func} {a b c : Tmp} {t : TypeId} (h : fn.results = #[.cell a t, .tmp b, .tmp c]) {tmps : Array Value} {R : Addr} (hp : tmps.getD a undef = .pointer (some R)) {v : Value} {w : World} (hl : (loadVar t R).run P w = .ok v w) :
    (results fn tmps).run P w = .ok (.tuple #[v, tmps.getD b undef, tmps.getD c undef]) w := by
  rw [Array.getD_eq_getD_getElem?] at hp
  simp [results, h, hp, asAddr, hl]
/-- A box of an answer, empty, and the old memory. -/
structure OneW (w W : World) (Q : Nat) : Prop where
  qb : W.heap[Q]? = some (.cells zeroC.toArray 27)
  up : w.heap.size ≤ Q
  bel : Below w.heap.size w W
theorem OneW.start (w : World) : OneW w (w.alloc (.cells zeroC.toArray 27)) w.heap.size := ⟨blk_new w _, Nat.le_refl _, (Below.refl _ w).alloc (Nat.le_refl _) _⟩
theorem OneW.on {w W W' : World} {Q : Nat} (h : OneW w W Q) (hb : Below W.heap.size W W') : OneW w W' Q := ⟨blk_on h.qb hb, h.up, h.bel.trans (hb.mono h.bel.size)⟩
theorem OneW.zero {w W : World} {Q : Nat} (h : OneW w W Q) : ∃ w3, (Instr.storeAt 27 (.pointer (some ⟨Q, 0, none⟩)) (.agg zeroC.toArray)).run Try.prog W = .ok () w3 ∧ (loadVar 27 ⟨Q, 0, none⟩).run Try.prog w3 = .ok (.agg zeroC.toArray) w3 ∧ Below w.heap.size w w3 := by
  obtain ⟨w3, h3, l3, o3⟩ := slot17 h.qb rfl zeroC rfl zero_one
  exact ⟨w3, h3, l3, h.bel.trans (o3.below h.up)⟩

set_option maxHeartbeats 1000000 in
set_option maxRecDepth 100000 in
theorem read_short (a : Option Addr) (len cap : Nat) (part : Bool) (w : World) (hl : len < 20) :
    Calls Try.prog 41 #[.slice a len cap, .bool part] w fun e w' => e = .returned (.tuple #[.agg zeroC.toArray, .int .i64 0, .int .i64 40]) ∧ Below w.heap.size w w' := by
  have q0 : decide ((len : Int) < 20) = true := by simp; omega
  have hS := OneW.start w
  obtain ⟨w3, hst, hrs, hbl⟩ := hS.zero
  have HST : Hid _ := hst
  have HRS : Hid _ := hrs
  unfold zeroC at *
  clear hS hst hrs
  go_enter Try.func41, Try.ntmps41
  go_wp2_with ((with_reducible show wpList _ _ _ _ _ _); refine arm_store rfl (.tmp 4) _ 27 rfl rfl rfl HST.out ?_)
  refine bodyPost_ret (res3t rfl rfl HRS.out) rfl ?_
  exact ⟨rfl, hbl⟩

set_option maxHeartbeats 1000000 in
set_option maxRecDepth 100000 in
theorem read_version (b off cap : Nat) (zs : List Int) (part : Bool) (w : World) (hf : Fit zs) (hm : zs.length ≤ 140737488351232) (hcap : zs.length ≤ cap) (hb : b < w.heap.size) (hc : ∀ j, j < zs.length → w.cell? ⟨b, off + j, none⟩ = some (.int .u8 (gz zs j))) (h20 : 20 ≤ zs.length) (hv : gz zs 0 / 16 ≠ 4) :
    Calls Try.prog 41 #[.slice (some ⟨b, off, none⟩) zs.length cap, .bool part] w fun e w' => e = .returned (.tuple #[.agg zeroC.toArray, .int .i64 0, .int .i64 41]) ∧ Below w.heap.size w w' := by
  have hS := OneW.start w
  have k0 : (w.alloc (.cells zeroC.toArray 27)).cell? ⟨b, off, none⟩ = some (.int .u8 (gz zs 0)) := (hS.bel.cell (p := ⟨b, off, none⟩) hb).trans (hc 0 (by omega))
  have k2 : (w.alloc (.cells zeroC.toArray 27)).cell? ⟨b, off + 2, none⟩ = some (.int .u8 (gz zs 2)) := (hS.bel.cell (p := ⟨b, off + 2, none⟩) hb).trans (hc 2 (by omega))
  have k3 : (w.alloc (.cells zeroC.toArray 27)).cell? ⟨b, off + 3, none⟩ = some (.int .u8 (gz zs 3)) := (hS.bel.cell (p := ⟨b, off + 3, none⟩) hb).trans (hc 3 (by omega))
  have g0 := hf.gz 0
  have g2 := hf.gz 2
  have g3 := hf.gz 3
  have q1 : (gz zs 0 / 16 != 4) = true := by simp [hv]
  obtain ⟨w3, hst, hrs, hbl⟩ := hS.zero
  have HST : Hid _ := hst
  have HRS : Hid _ := hrs
  have q0 : decide ((zs.length : Int) < 20) = false := by simp; omega
  unfold zeroC at *
  clear hS hst hrs hc hf
  go_enter Try.func41, Try.ntmps41
  go_wp2_with ((with_reducible show wpList _ _ _ _ _ _); refine arm_store rfl (.tmp 4) _ 27 rfl rfl rfl HST.out ?_)
  refine bodyPost_ret (res3t rfl rfl HRS.out) rfl ?_
  exact ⟨rfl, hbl⟩

set_option maxHeartbeats 1000000 in
set_option maxRecDepth 100000 in
theorem read_head_a (b off cap : Nat) (zs : List Int) (part : Bool) (w : World) (hf : Fit zs) (hm : zs.length ≤ 140737488351232) (hcap : zs.length ≤ cap) (hb : b < w.heap.size) (hc : ∀ j, j < zs.length → w.cell? ⟨b, off + j, none⟩ = some (.int .u8 (gz zs j))) (h20 : 20 ≤ zs.length) (hv : gz zs 0 / 16 = 4) (h1 : gz zs 0 % 16 * 4 < 20) :
    Calls Try.prog 41 #[.slice (some ⟨b, off, none⟩) zs.length cap, .bool part] w fun e w' => e = .returned (.tuple #[.agg zeroC.toArray, .int .i64 0, .int .i64 42]) ∧ Below w.heap.size w w' := by
  have hS := OneW.start w
  have k0 : (w.alloc (.cells zeroC.toArray 27)).cell? ⟨b, off, none⟩ = some (.int .u8 (gz zs 0)) := (hS.bel.cell (p := ⟨b, off, none⟩) hb).trans (hc 0 (by omega))
  have k2 : (w.alloc (.cells zeroC.toArray 27)).cell? ⟨b, off + 2, none⟩ = some (.int .u8 (gz zs 2)) := (hS.bel.cell (p := ⟨b, off + 2, none⟩) hb).trans (hc 2 (by omega))
  have k3 : (w.alloc (.cells zeroC.toArray 27)).cell? ⟨b, off + 3, none⟩ = some (.int .u8 (gz zs 3)) := (hS.bel.cell (p := ⟨b, off + 3, none⟩) hb).trans (hc 3 (by omega))
  have g0 := hf.gz 0
  have g2 := hf.gz 2
  have g3 := hf.gz 3
  have q1 : (gz zs 0 / 16 != 4) = false := by simp [hv]
  have q2 : decide (gz zs 0 % 16 * 4 < 20) = true := by simp; omega
  obtain ⟨w3, hst, hrs, hbl⟩ := hS.zero
  have HST : Hid _ := hst
  have HRS : Hid _ := hrs
  have q0 : decide ((zs.length : Int) < 20) = false := by simp; omega
  unfold zeroC at *
  clear hS hst hrs hc hf
  go_enter Try.func41, Try.ntmps41
  go_wp2_with ((with_reducible show wpList _ _ _ _ _ _); refine arm_store rfl (.tmp 4) _ 27 rfl rfl rfl HST.out ?_)
  refine bodyPost_ret (res3t rfl rfl HRS.out) rfl ?_
  exact ⟨rfl, hbl⟩

set_option maxHeartbeats 1000000 in
set_option maxRecDepth 100000 in
theorem read_head_b (b off cap : Nat) (zs : List Int) (part : Bool) (w : World) (hf : Fit zs) (hm : zs.length ≤ 140737488351232) (hcap : zs.length ≤ cap) (hb : b < w.heap.size) (hc : ∀ j, j < zs.length → w.cell? ⟨b, off + j, none⟩ = some (.int .u8 (gz zs j))) (h20 : 20 ≤ zs.length) (hv : gz zs 0 / 16 = 4) (h1 : 20 ≤ gz zs 0 % 16 * 4) (h2 : (zs.length : Int) < gz zs 0 % 16 * 4) :
    Calls Try.prog 41 #[.slice (some ⟨b, off, none⟩) zs.length cap, .bool part] w fun e w' => e = .returned (.tuple #[.agg zeroC.toArray, .int .i64 0, .int .i64 42]) ∧ Below w.heap.size w w' := by
  have hS := OneW.start w
  have k0 : (w.alloc (.cells zeroC.toArray 27)).cell? ⟨b, off, none⟩ = some (.int .u8 (gz zs 0)) := (hS.bel.cell (p := ⟨b, off, none⟩) hb).trans (hc 0 (by omega))
  have k2 : (w.alloc (.cells zeroC.toArray 27)).cell? ⟨b, off + 2, none⟩ = some (.int .u8 (gz zs 2)) := (hS.bel.cell (p := ⟨b, off + 2, none⟩) hb).trans (hc 2 (by omega))
  have k3 : (w.alloc (.cells zeroC.toArray 27)).cell? ⟨b, off + 3, none⟩ = some (.int .u8 (gz zs 3)) := (hS.bel.cell (p := ⟨b, off + 3, none⟩) hb).trans (hc 3 (by omega))
  have g0 := hf.gz 0
  have g2 := hf.gz 2
  have g3 := hf.gz 3
  have q1 : (gz zs 0 / 16 != 4) = false := by simp [hv]
  have q2 : decide (gz zs 0 % 16 * 4 < 20) = false := by simp; omega
  have q3 : decide ((zs.length : Int) < gz zs 0 % 16 * 4) = true := by simp; omega
  obtain ⟨w3, hst, hrs, hbl⟩ := hS.zero
  have HST : Hid _ := hst
  have HRS : Hid _ := hrs
  have q0 : decide ((zs.length : Int) < 20) = false := by simp; omega
  unfold zeroC at *
  clear hS hst hrs hc hf
  go_enter Try.func41, Try.ntmps41
  go_wp2_with ((with_reducible show wpList _ _ _ _ _ _); refine arm_store rfl (.tmp 4) _ 27 rfl rfl rfl HST.out ?_)
  refine bodyPost_ret (res3t rfl rfl HRS.out) rfl ?_
  exact ⟨rfl, hbl⟩

end Go.Proofs.Ytmoogfdmlbalbaa
