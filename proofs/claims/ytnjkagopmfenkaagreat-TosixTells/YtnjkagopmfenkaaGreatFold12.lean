/-
  The document's reader of IPv4 datagrams: where bytes are none.
  The document's reader of IPv4 datagrams: a length that is not so; a checksum that is not so.
  Parse and Part of whatever bytes; the document's.
  What the bytes of a written datagram say: plain.
-/
import Derived.Test.YtnjkagopmfenkaaGreatFold04
import Derived.Test.YtnjkagopmfenkaaGreatFold11
import Derived.Deep.RegionHeld3
import Derived.Test.YtnjkagopmfenkaaGreatFold08
import Derived.Test.YtnjkagopmfenkaaGreatFold09
namespace Go.Proofs.YtnjkagopmfenkaaGreat.V4
open Go Go.RowKit
set_option linter.unusedVariables false
set_option linter.unusedSimpArgs false

/-- A box of an answer, empty, and the old memory. -/
structure OneW (w W : World) (Q : Nat) : Prop where
  qb : W.heap[Q]? = some (.cells zeroC.toArray 27)
  up : w.heap.size ≤ Q
  bel : Below w.heap.size w W
theorem OneW.start (w : World) : OneW w (w.alloc (.cells zeroC.toArray 27)) w.heap.size := ⟨blk_new w _, Nat.le_refl _, (Below.refl _ w).alloc (Nat.le_refl _) _⟩
theorem OneW.on {w W W' : World} {Q : Nat} (h : OneW w W Q) (hb : Below W.heap.size W W') : OneW w W' Q := ⟨blk_on h.qb hb, h.up, h.bel.trans (hb.mono h.bel.size)⟩
theorem OneW.zero {w W : World} {Q : Nat} (h : OneW w W Q) : ∃ w3, (Instr.storeAt 27 (.pointer (some ⟨Q, 0, none⟩)) (.agg zeroC.toArray)).run Tryz.prog W = .ok () w3 ∧ (loadVar 27 ⟨Q, 0, none⟩).run Tryz.prog w3 = .ok (.agg zeroC.toArray) w3 ∧ Below w.heap.size w w3 := by
  obtain ⟨w3, h3, l3, o3⟩ := slot17 h.qb rfl zeroC rfl zero_one
  exact ⟨w3, h3, l3, h.bel.trans (o3.below h.up)⟩

set_option maxHeartbeats 1000000 in
set_option maxRecDepth 100000 in
theorem read_short (a : Option Addr) (len cap : Nat) (part : Bool) (w : World) (hl : len < 20) :
    Calls Tryz.prog 98 #[.slice a len cap, .bool part] w fun e w' => e = .returned (.tuple #[.agg zeroC.toArray, .int .i64 0, .int .i64 40]) ∧ Below w.heap.size w w' := by
  have q0 : decide ((len : Int) < 20) = true := by simp; omega
  have hS := OneW.start w
  obtain ⟨w3, hst, hrs, hbl⟩ := hS.zero
  have HST : Hid _ := hst
  have HRS : Hid _ := hrs
  unfold zeroC at *
  clear hS hst hrs
  go_enter Tryz.func98, Tryz.ntmps98
  go_wp2_with ((with_reducible show wpList _ _ _ _ _ _); refine arm_store rfl (.tmp 4) _ 27 rfl rfl rfl HST.out ?_)
  refine bodyPost_ret (res3t rfl rfl HRS.out) rfl ?_
  exact ⟨rfl, hbl⟩

set_option maxHeartbeats 1000000 in
set_option maxRecDepth 100000 in
theorem read_version (b off cap : Nat) (zs : List Int) (part : Bool) (w : World) (hf : Fit zs) (hm : zs.length ≤ 140737488351232) (hcap : zs.length ≤ cap) (hb : b < w.heap.size) (hc : ∀ j, j < zs.length → w.cell? ⟨b, off + j, none⟩ = some (.int .u8 (gz zs j))) (h20 : 20 ≤ zs.length) (hv : gz zs 0 / 16 ≠ 4) :
    Calls Tryz.prog 98 #[.slice (some ⟨b, off, none⟩) zs.length cap, .bool part] w fun e w' => e = .returned (.tuple #[.agg zeroC.toArray, .int .i64 0, .int .i64 41]) ∧ Below w.heap.size w w' := by
  have hS := OneW.start w
  have k0 : (w.alloc (.cells zeroC.toArray 27)).cell? ⟨b, off, none⟩ = some (.int .u8 (gz zs 0)) := (hS.bel.cell (p := ⟨b, off, none⟩) hb).trans (hc 0 (by omega))
  have k2 : (w.alloc (.cells zeroC.toArray 27)).cell? ⟨b, off + 2, none⟩ = some (.int .u8 (gz zs 2)) := (hS.bel.cell (p := ⟨b, off + 2, none⟩) hb).trans (hc 2 (by omega))
  have k3 : (w.alloc (.cells zeroC.toArray 27)).cell? ⟨b, off + 3, none⟩ = some (.int .u8 (gz zs 3)) := (hS.bel.cell (p := ⟨b, off + 3, none⟩) hb).trans (hc 3 (by omega))
  have g0 := hf.gz 0
  have g2 := hf.gz 2
  have g3 := hf.gz 3
  have q1 : (gz zs 0 / 16 != 4) = true := by simp [hv]
  obtain ⟨w3, hst, hrs, hbl⟩ := hS.zero
  have HST : Hid _ := hst
  have HRS : Hid _ := hrs
  have q0 : decide ((zs.length : Int) < 20) = false := by simp; omega
  unfold zeroC at *
  clear hS hst hrs hc hf
  go_enter Tryz.func98, Tryz.ntmps98
  go_wp2_with ((with_reducible show wpList _ _ _ _ _ _); refine arm_store rfl (.tmp 4) _ 27 rfl rfl rfl HST.out ?_)
  refine bodyPost_ret (res3t rfl rfl HRS.out) rfl ?_
  exact ⟨rfl, hbl⟩

set_option maxHeartbeats 1000000 in
set_option maxRecDepth 100000 in
theorem read_head_a (b off cap : Nat) (zs : List Int) (part : Bool) (w : World) (hf : Fit zs) (hm : zs.length ≤ 140737488351232) (hcap : zs.length ≤ cap) (hb : b < w.heap.size) (hc : ∀ j, j < zs.length → w.cell? ⟨b, off + j, none⟩ = some (.int .u8 (gz zs j))) (h20 : 20 ≤ zs.length) (hv : gz zs 0 / 16 = 4) (h1 : gz zs 0 % 16 * 4 < 20) :
    Calls Tryz.prog 98 #[.slice (some ⟨b, off, none⟩) zs.length cap, .bool part] w fun e w' => e = .returned (.tuple #[.agg zeroC.toArray, .int .i64 0, .int .i64 42]) ∧ Below w.heap.size w w' := by
  have hS := OneW.start w
  have k0 : (w.alloc (.cells zeroC.toArray 27)).cell? ⟨b, off, none⟩ = some (.int .u8 (gz zs 0)) := (hS.bel.cell (p := ⟨b, off, none⟩) hb).trans (hc 0 (by omega))
  have k2 : (w.alloc (.cells zeroC.toArray 27)).cell? ⟨b, off + 2, none⟩ = some (.int .u8 (gz zs 2)) := (hS.bel.cell (p := ⟨b, off + 2, none⟩) hb).trans (hc 2 (by omega))
  have k3 : (w.alloc (.cells zeroC.toArray 27)).cell? ⟨b, off + 3, none⟩ = some (.int .u8 (gz zs 3)) := (hS.bel.cell (p := ⟨b, off + 3, none⟩) hb).trans (hc 3 (by omega))
  have g0 := hf.gz 0
  have g2 := hf.gz 2
  have g3 := hf.gz 3
  have q1 : (gz zs 0 / 16 != 4) = false := by simp [hv]
  have q2 : decide (gz zs 0 % 16 * 4 < 20) = true := by simp; omega
  obtain ⟨w3, hst, hrs, hbl⟩ := hS.zero
  have HST : Hid _ := hst
  have HRS : Hid _ := hrs
  have q0 : decide ((zs.length : Int) < 20) = false := by simp; omega
  unfold zeroC at *
  clear hS hst hrs hc hf
  go_enter Tryz.func98, Tryz.ntmps98
  go_wp2_with ((with_reducible show wpList _ _ _ _ _ _); refine arm_store rfl (.tmp 4) _ 27 rfl rfl rfl HST.out ?_)
  refine bodyPost_ret (res3t rfl rfl HRS.out) rfl ?_
  exact ⟨rfl, hbl⟩

set_option maxHeartbeats 1000000 in
set_option maxRecDepth 100000 in
theorem read_head_b (b off cap : Nat) (zs : List Int) (part : Bool) (w : World) (hf : Fit zs) (hm : zs.length ≤ 140737488351232) (hcap : zs.length ≤ cap) (hb : b < w.heap.size) (hc : ∀ j, j < zs.length → w.cell? ⟨b, off + j, none⟩ = some (.int .u8 (gz zs j))) (h20 : 20 ≤ zs.length) (hv : gz zs 0 / 16 = 4) (h1 : 20 ≤ gz zs 0 % 16 * 4) (h2 : (zs.length : Int) < gz zs 0 % 16 * 4) :
    Calls Tryz.prog 98 #[.slice (some ⟨b, off, none⟩) zs.length cap, .bool part] w fun e w' => e = .returned (.tuple #[.agg zeroC.toArray, .int .i64 0, .int .i64 42]) ∧ Below w.heap.size w w' := by
  have hS := OneW.start w
  have k0 : (w.alloc (.cells zeroC.toArray 27)).cell? ⟨b, off, none⟩ = some (.int .u8 (gz zs 0)) := (hS.bel.cell (p := ⟨b, off, none⟩) hb).trans (hc 0 (by omega))
  have k2 : (w.alloc (.cells zeroC.toArray 27)).cell? ⟨b, off + 2, none⟩ = some (.int .u8 (gz zs 2)) := (hS.bel.cell (p := ⟨b, off + 2, none⟩) hb).trans (hc 2 (by omega))
  have k3 : (w.alloc (.cells zeroC.toArray 27)).cell? ⟨b, off + 3, none⟩ = some (.int .u8 (gz zs 3)) := (hS.bel.cell (p := ⟨b, off + 3, none⟩) hb).trans (hc 3 (by omega))
  have g0 := hf.gz 0
  have g2 := hf.gz 2
  have g3 := hf.gz 3
  have q1 : (gz zs 0 / 16 != 4) = false := by simp [hv]
  have q2 : decide (gz zs 0 % 16 * 4 < 20) = false := by simp; omega
  have q3 : decide ((zs.length : Int) < gz zs 0 % 16 * 4) = true := by simp; omega
  obtain ⟨w3, hst, hrs, hbl⟩ := hS.zero
  have HST : Hid _ := hst
  have HRS : Hid _ := hrs
  have q0 : decide ((zs.length : Int) < 20) = false := by simp; omega
  unfold zeroC at *
  clear hS hst hrs hc hf
  go_enter Tryz.func98, Tryz.ntmps98
  go_wp2_with ((with_reducible show wpList _ _ _ _ _ _); refine arm_store rfl (.tmp 4) _ 27 rfl rfl rfl HST.out ?_)
  refine bodyPost_ret (res3t rfl rfl HRS.out) rfl ?_
  exact ⟨rfl, hbl⟩

end Go.Proofs.YtnjkagopmfenkaaGreat.V4

namespace Go.Proofs.YtnjkagopmfenkaaGreat.V4
open Go Go.RowKit
set_option linter.unusedVariables false
set_option linter.unusedSimpArgs false

set_option maxHeartbeats 1000000 in
set_option maxRecDepth 100000 in
theorem read_length_a (b off cap : Nat) (zs : List Int) (part : Bool) (w : World) (hf : Fit zs) (hm : zs.length ≤ 140737488351232) (hcap : zs.length ≤ cap) (hb : b < w.heap.size) (hc : ∀ j, j < zs.length → w.cell? ⟨b, off + j, none⟩ = some (.int .u8 (gz zs j))) (h20 : 20 ≤ zs.length) (hv : gz zs 0 / 16 = 4) (h1 : 20 ≤ gz zs 0 % 16 * 4) (h2 : gz zs 0 % 16 * 4 ≤ (zs.length : Int)) (h3 : gz zs 2 * 256 + gz zs 3 < (zs.length : Int)) :
    Calls Tryz.prog 98 #[.slice (some ⟨b, off, none⟩) zs.length cap, .bool part] w fun e w' => e = .returned (.tuple #[.agg zeroC.toArray, .int .i64 2, .int .i64 43]) ∧ Below w.heap.size w w' := by
  have hS := OneW.start w
  have k0 : (w.alloc (.cells zeroC.toArray 27)).cell? ⟨b, off, none⟩ = some (.int .u8 (gz zs 0)) := (hS.bel.cell (p := ⟨b, off, none⟩) hb).trans (hc 0 (by omega))
  have k2 : (w.alloc (.cells zeroC.toArray 27)).cell? ⟨b, off + 2, none⟩ = some (.int .u8 (gz zs 2)) := (hS.bel.cell (p := ⟨b, off + 2, none⟩) hb).trans (hc 2 (by omega))
  have k3 : (w.alloc (.cells zeroC.toArray 27)).cell? ⟨b, off + 3, none⟩ = some (.int .u8 (gz zs 3)) := (hS.bel.cell (p := ⟨b, off + 3, none⟩) hb).trans (hc 3 (by omega))
  have g0 := hf.gz 0
  have g2 := hf.gz 2
  have g3 := hf.gz 3
  have q0 : decide ((zs.length : Int) < 20) = false := by simp; omega
  have q1 : (gz zs 0 / 16 != 4) = false := by simp [hv]
  have q2 : decide (gz zs 0 % 16 * 4 < 20) = false := by simp; omega
  have q3 : decide ((zs.length : Int) < gz zs 0 % 16 * 4) = false := by simp; omega
  have q4 : decide (gz zs 2 * 256 + gz zs 3 < (zs.length : Int)) = true := by simp; omega
  obtain ⟨w3, hst, hrs, hbl⟩ := (hS.on (Below.refl _ _).drew).zero
  have HST : Hid _ := hst
  have HRS : Hid _ := hrs
  unfold zeroC at *
  clear hS hst hrs hc hf
  go_enter Tryz.func98, Tryz.ntmps98
  go_wp2
  go_region
  go_wp2_with ((with_reducible show wpList _ _ _ _ _ _); refine arm_store rfl (.tmp 4) _ 27 rfl rfl rfl HST.out ?_)
  refine bodyPost_ret (res3t rfl rfl HRS.out) rfl ?_
  exact ⟨rfl, hbl⟩

set_option maxHeartbeats 1000000 in
set_option maxRecDepth 100000 in
theorem read_length_b (b off cap : Nat) (zs : List Int) (w : World) (hf : Fit zs) (hm : zs.length ≤ 140737488351232) (hcap : zs.length ≤ cap) (hb : b < w.heap.size) (hc : ∀ j, j < zs.length → w.cell? ⟨b, off + j, none⟩ = some (.int .u8 (gz zs j))) (h20 : 20 ≤ zs.length) (hv : gz zs 0 / 16 = 4) (h1 : 20 ≤ gz zs 0 % 16 * 4) (h2 : gz zs 0 % 16 * 4 ≤ (zs.length : Int)) (h3 : (zs.length : Int) < gz zs 2 * 256 + gz zs 3) :
    Calls Tryz.prog 98 #[.slice (some ⟨b, off, none⟩) zs.length cap, .bool false] w fun e w' => e = .returned (.tuple #[.agg zeroC.toArray, .int .i64 2, .int .i64 43]) ∧ Below w.heap.size w w' := by
  have hS := OneW.start w
  have k0 : (w.alloc (.cells zeroC.toArray 27)).cell? ⟨b, off, none⟩ = some (.int .u8 (gz zs 0)) := (hS.bel.cell (p := ⟨b, off, none⟩) hb).trans (hc 0 (by omega))
  have k2 : (w.alloc (.cells zeroC.toArray 27)).cell? ⟨b, off + 2, none⟩ = some (.int .u8 (gz zs 2)) := (hS.bel.cell (p := ⟨b, off + 2, none⟩) hb).trans (hc 2 (by omega))
  have k3 : (w.alloc (.cells zeroC.toArray 27)).cell? ⟨b, off + 3, none⟩ = some (.int .u8 (gz zs 3)) := (hS.bel.cell (p := ⟨b, off + 3, none⟩) hb).trans (hc 3 (by omega))
  have g0 := hf.gz 0
  have g2 := hf.gz 2
  have g3 := hf.gz 3
  have q0 : decide ((zs.length : Int) < 20) = false := by simp; omega
  have q1 : (gz zs 0 / 16 != 4) = false := by simp [hv]
  have q2 : decide (gz zs 0 % 16 * 4 < 20) = false := by simp; omega
  have q3 : decide ((zs.length : Int) < gz zs 0 % 16 * 4) = false := by simp; omega
  have q4 : decide (gz zs 2 * 256 + gz zs 3 < (zs.length : Int)) = false := by simp; omega
  have q5 : decide ((zs.length : Int) < gz zs 2 * 256 + gz zs 3) = true := by simp; omega
  obtain ⟨w3, hst, hrs, hbl⟩ := (hS.on (Below.refl _ _).drew).zero
  have HST : Hid _ := hst
  have HRS : Hid _ := hrs
  unfold zeroC at *
  clear hS hst hrs hc hf
  go_enter Tryz.func98, Tryz.ntmps98
  go_wp2
  go_region
  go_wp2_with ((with_reducible show wpList _ _ _ _ _ _); refine arm_store rfl (.tmp 4) _ 27 rfl rfl rfl HST.out ?_)
  refine bodyPost_ret (res3t rfl rfl HRS.out) rfl ?_
  exact ⟨rfl, hbl⟩

set_option maxHeartbeats 1000000 in
set_option maxRecDepth 100000 in
theorem read_sum (b off cap : Nat) (zs : List Int) (w : World) (hf : Fit zs) (hm : zs.length ≤ 140737488351232) (hcap : zs.length ≤ cap) (hb : b < w.heap.size) (hc : ∀ j, j < zs.length → w.cell? ⟨b, off + j, none⟩ = some (.int .u8 (gz zs j))) (h20 : 20 ≤ zs.length) (hv : gz zs 0 / 16 = 4) (h1 : 20 ≤ gz zs 0 % 16 * 4) (h2 : gz zs 0 % 16 * 4 ≤ (zs.length : Int)) (h3 : gz zs 2 * 256 + gz zs 3 = (zs.length : Int)) (hsum : sumW 0 (wordsL (zs.take (gz zs 0 % 16 * 4).toNat)) ≠ 65535) :
    Calls Tryz.prog 98 #[.slice (some ⟨b, off, none⟩) zs.length cap, .bool false] w fun e w' => e = .returned (.tuple #[.agg zeroC.toArray, .int .i64 10, .int .i64 44]) ∧ Below w.heap.size w w' := by
  have hS := OneW.start w
  have k0 : (w.alloc (.cells zeroC.toArray 27)).cell? ⟨b, off, none⟩ = some (.int .u8 (gz zs 0)) := (hS.bel.cell (p := ⟨b, off, none⟩) hb).trans (hc 0 (by omega))
  have k2 : (w.alloc (.cells zeroC.toArray 27)).cell? ⟨b, off + 2, none⟩ = some (.int .u8 (gz zs 2)) := (hS.bel.cell (p := ⟨b, off + 2, none⟩) hb).trans (hc 2 (by omega))
  have k3 : (w.alloc (.cells zeroC.toArray 27)).cell? ⟨b, off + 3, none⟩ = some (.int .u8 (gz zs 3)) := (hS.bel.cell (p := ⟨b, off + 3, none⟩) hb).trans (hc 3 (by omega))
  have g0 := hf.gz 0
  have g2 := hf.gz 2
  have g3 := hf.gz 3
  have q0 : decide ((zs.length : Int) < 20) = false := by simp; omega
  have q1 : (gz zs 0 / 16 != 4) = false := by simp [hv]
  have q2 : decide (gz zs 0 % 16 * 4 < 20) = false := by simp; omega
  have q3 : decide ((zs.length : Int) < gz zs 0 % 16 * 4) = false := by simp; omega
  have q4 : decide (gz zs 2 * 256 + gz zs 3 < (zs.length : Int)) = false := by simp; omega
  have q5 : decide ((zs.length : Int) < gz zs 2 * 256 + gz zs 3) = false := by simp; omega
  have q6 : decide (gz zs 2 * 256 + gz zs 3 < gz zs 0 % 16 * 4) = false := by simp; omega
  have hS1 := hS.on ((Below.refl _ _).drew)
  have HS1 : Hid _ := hS1
  have hsl : BytesAt (w.alloc (.cells zeroC.toArray 27)).drew.heap.size (w.alloc (.cells zeroC.toArray 27)).drew (.slice (some ⟨b, off, none⟩) (gz zs 0 % 16 * 4).toNat cap) (zs.take (gz zs 0 % 16 * 4).toNat) := by
    have := piece_at (k := cap) (i := 0) (n := (gz zs 0 % 16 * 4).toNat) hb hf hm hc (by omega) (fun _ => rfl)
    rw [List.drop_zero] at this
    exact this.later hS1.bel
  have hfo := fold_ref _ _ _ _ _ (parts_one _ _ 25 _ hsl) (by simp; omega)
  rw [show ([zs.take (gz zs 0 % 16 * 4).toNat] : List (List Int)).flatten = zs.take (gz zs 0 % 16 * 4).toNat by simp, show (w.alloc (.cells zeroC.toArray 27)).drew.heap.size = w.heap.size + 1 by simp] at hfo
  generalize hsm : sumW 0 (wordsL (zs.take (gz zs 0 % 16 * 4).toNat)) = sm at *
  have q7 : (sm != 65535) = true := by simp [hsum]
  have hS2 := hS.on (((Below.refl _ _).alloc (Nat.le_refl _) (.cells #[.slice (some ⟨b, off, none⟩) (gz zs 0 % 16 * 4).toNat cap] 25)).drew)
  have HS2 : Hid _ := hS2
  have HFO : Hid _ := hfo
  unfold zeroC at *
  clear hS hS2 hc hf hS1 hsl hsum hfo hsm
  go_enter Tryz.func98, Tryz.ntmps98
  go_wp2
  go_region
  go_wp2_with fail
  refine Calls.mono HFO.out ?_
  rintro e3 w3 ⟨rfl, hb3⟩
  obtain ⟨w4, hst, hrs, hbl⟩ := (HS2.out.on hb3).zero
  have HST : Hid _ := hst
  have HRS : Hid _ := hrs
  unfold zeroC at HST HRS
  clear hst hrs hb3 HFO HS2 HS1
  go_wp2_with ((with_reducible show wpList _ _ _ _ _ _); refine arm_store rfl (.tmp 4) _ 27 rfl rfl rfl HST.out ?_)
  refine bodyPost_ret (res3t rfl rfl HRS.out) rfl ?_
  exact ⟨rfl, hbl⟩

end Go.Proofs.YtnjkagopmfenkaaGreat.V4

namespace Go.Proofs.YtnjkagopmfenkaaGreat.V4
open Go Go.RowKit
set_option linter.unusedVariables false
set_option linter.unusedSimpArgs false

theorem u8_low4' (zs : List Int) (hf : Fit zs) : bits .and .u8 (gz zs 0) 15 = gz zs 0 % 16 := u8_low4 _ (hf.gz 0)
theorem ParD.no {zs : List Int} {part : Bool} (h : pErr zs part ≠ (0, 0)) (w : World) : ParD zs part w zeroC := by
  unfold ParD
  rw [if_neg h]
  exact zero_dg w
theorem ParD.yes {zs : List Int} {part : Bool} {w : World} {c : List Value} (h : pErr zs part = (0, 0)) (hd : SaysD zs w c) : ParD zs part w c := by
  unfold ParD
  rw [if_pos h]
  exact hd
theorem ParD.on {zs : List Int} {part : Bool} {w w' : World} {c : List Value} (h : ParD zs part w c) (hb : Below w.heap.size w w') : ParD zs part w' c := by
  unfold ParD SaysD at *
  split
  · next e => rw [if_pos e] at h; exact h.on hb
  · next e => rw [if_neg e] at h; exact h.on hb
theorem ParD.len {zs : List Int} {part : Bool} {w : World} {c : List Value} (h : ParD zs part w c) : c.length = 17 ∧ ∀ v ∈ c, v.oneCell' = true := by
  unfold ParD SaysD at h
  split at h
  · exact ⟨h.lens.len, h.ones⟩
  · exact ⟨h.lens.len, h.ones⟩
theorem ParD.only {zs : List Int} {part : Bool} {w w' : World} {c : List Value} (h : ParD zs part w c) {B g : Nat} (hA : Apart B c) (hg : g < B) (hO : Only g w w') : ParD zs part w' c := by
  unfold ParD SaysD at *
  split
  · next e => rw [if_pos e] at h; exact h.only hA hg hO
  · next e => rw [if_neg e] at h; exact h.only hA hg hO

theorem pErr_short {zs : List Int} {part : Bool} (h : zs.length < 20) : pErr zs part = (0, 40) := by unfold pErr; rw [if_pos h]
theorem pErr_version {zs : List Int} {part : Bool} (h : 20 ≤ zs.length) (hv : gz zs 0 / 16 ≠ 4) : pErr zs part = (0, 41) := by unfold pErr; rw [if_neg (by omega), if_pos hv]
theorem pErr_head {zs : List Int} {part : Bool} (h : 20 ≤ zs.length) (hv : gz zs 0 / 16 = 4) (hs : ¬ (20 ≤ pHead zs ∧ pHead zs ≤ zs.length)) : pErr zs part = (0, 42) := by unfold pErr; rw [if_neg (by omega), if_neg (by omega), if_pos hs]
theorem pErr_length {zs : List Int} {part : Bool} (h : 20 ≤ zs.length) (hv : gz zs 0 / 16 = 4) (hs : 20 ≤ pHead zs ∧ pHead zs ≤ zs.length) (hl : pAll zs < zs.length ∨ (zs.length < pAll zs ∧ part = false)) : pErr zs part = (2, 43) := by
  unfold pErr; rw [if_neg (by omega), if_neg (by omega), if_neg (by omega), if_pos hl]
theorem pErr_sum {zs : List Int} (h : 20 ≤ zs.length) (hv : gz zs 0 / 16 = 4) (hs : 20 ≤ pHead zs ∧ pHead zs ≤ zs.length) (hl : pAll zs = zs.length) (hsum : sumW 0 (wordsL (zs.take (pHead zs).toNat)) ≠ 65535) : pErr zs false = (10, 44) := by
  unfold pErr; rw [if_neg (by omega), if_neg (by omega), if_neg (by omega), if_neg (by omega), if_pos ⟨rfl, hsum⟩]
theorem pErr_ok {zs : List Int} (h : 20 ≤ zs.length) (hv : gz zs 0 / 16 = 4) (hs : 20 ≤ pHead zs ∧ pHead zs ≤ zs.length) (hl : pAll zs = zs.length) (hsum : sumW 0 (wordsL (zs.take (pHead zs).toNat)) = 65535) : pErr zs false = (0, 0) := by
  unfold pErr; rw [if_neg (by omega), if_neg (by omega), if_neg (by omega), if_neg (by omega), if_neg (by simp [hsum])]
theorem pErr_part {zs : List Int} (h : 20 ≤ zs.length) (hv : gz zs 0 / 16 = 4) (hs : 20 ≤ pHead zs ∧ pHead zs ≤ zs.length) (hl : (zs.length : Int) ≤ pAll zs) : pErr zs true = (0, 0) := by
  unfold pErr; rw [if_neg (by omega), if_neg (by omega), if_neg (by omega), if_neg (by simp; omega), if_neg (by simp)]

/-- What a reader answers. -/
def ReadsAs (f : FuncId) (v : Value) (zs : List Int) (part : Bool) (w : World) : Prop :=
  Calls Tryz.prog f #[v] w fun e w' => ∃ c', e = .returned (.tuple #[.agg c'.toArray, .int .i64 (pErr zs part).1, .int .i64 (pErr zs part).2]) ∧ ParD zs part w' c' ∧ Apart w.heap.size c' ∧ Below w.heap.size w w'
theorem ReadsAs.no {f : FuncId} {v : Value} {zs : List Int} {part : Bool} {w : World} {at' er : Int} (he : pErr zs part = (at', er)) (hn : er ≠ 0)
    (h : Calls Tryz.prog f #[v] w fun e w' => e = .returned (.tuple #[.agg zeroC.toArray, .int .i64 at', .int .i64 er]) ∧ Below w.heap.size w w') : ReadsAs f v zs part w := by
  unfold ReadsAs
  refine h.mono ?_
  rintro e w' ⟨rfl, hb⟩
  refine ⟨zeroC, by rw [he], ParD.no ?_ w', zero_apart _, hb⟩
  rw [he]
  intro c
  injection c with _ c2
  exact hn c2
theorem ReadsAs.yes {f : FuncId} {v : Value} {zs : List Int} {part : Bool} {w : World} (he : pErr zs part = (0, 0))
    (h : Calls Tryz.prog f #[v] w fun e w' => ∃ c', e = .returned (.tuple #[.agg c'.toArray, .int .i64 0, .int .i64 0]) ∧ SaysD zs w' c' ∧ Apart w.heap.size c' ∧ Below w.heap.size w w') : ReadsAs f v zs part w := by
  unfold ReadsAs
  refine h.mono ?_
  rintro e w' ⟨c', rfl, hd, hA, hb⟩
  exact ⟨c', by rw [he], ParD.yes he hd, hA, hb⟩

theorem _root_.Go.Proofs.YtnjkagopmfenkaaGreat.RowC.begin_no {w : World} {v : Value} {zs : List Int} (h : RowC w v zs) {at' er : Int} (hn : (zs.length < 20 ∧ (at', er) = (0, 40)) ∨ (20 ≤ zs.length ∧ gz zs 0 / 16 ≠ 4 ∧ (at', er) = (0, 41)) ∨ (20 ≤ zs.length ∧ gz zs 0 / 16 = 4 ∧ ¬ (20 ≤ pHead zs ∧ pHead zs ≤ zs.length) ∧ (at', er) = (0, 42))) :
    Calls Tryz.prog 106 #[v] w fun e w' => e = .panicked [faultP at' er] ∧ Below w.heap.size w w' := by
  rcases hn with ⟨hl, e⟩ | ⟨hl, hv, e⟩ | ⟨hl, hv, hs, e⟩
  · injection e with e1 e2
    subst e1 e2
    obtain ⟨_, _, a, cap, rfl, _⟩ := h
    exact begin_short a _ cap w hl
  · injection e with e1 e2
    subst e1 e2
    obtain ⟨b, off, cap, rfl, hcap, hb, hc⟩ := h.some (by omega)
    exact begin_version b off _ cap (gz zs 0) w hb hl hcap h.len (hc 0 (by omega)) (h.fit.gz 0) hv
  · injection e with e1 e2
    subst e1 e2
    obtain ⟨b, off, cap, rfl, hcap, hb, hc⟩ := h.some (by omega)
    exact begin_head b off _ cap (gz zs 0) w hb hl hcap h.len (hc 0 (by omega)) (h.fit.gz 0) hv hs (u8_low4 _ (h.fit.gz 0))

theorem Part_any {w : World} {v : Value} {zs : List Int} (h : RowC w v zs) : ReadsAs 61 v zs true w := by
  by_cases h20 : zs.length < 20
  · exact .no (pErr_short h20) (by decide) (Part_no v 0 40 w fun W hW => (h.on hW).begin_no (.inl ⟨h20, rfl⟩))
  · by_cases hv : gz zs 0 / 16 = 4
    · by_cases hs : 20 ≤ pHead zs ∧ pHead zs ≤ zs.length
      · obtain ⟨b, off, cap, rfl, hcap, hb, hc⟩ := h.some (by omega)
        by_cases hl : (zs.length : Int) ≤ pAll zs
        · exact .yes (pErr_part (by omega) hv hs hl) (Part_ok b off cap zs w h.fit h.len hcap hb hc (by omega) hv hs hl)
        · exact .no (pErr_length (by omega) hv hs (by simp; omega)) (by decide) (Part_length b off cap zs w h.fit h.len hcap hb hc (by omega) hv hs (by omega))
      · exact .no (pErr_head (by omega) hv hs) (by decide) (Part_no v 0 42 w fun W hW => (h.on hW).begin_no (.inr (.inr ⟨by omega, hv, hs, rfl⟩)))
    · exact .no (pErr_version (by omega) hv) (by decide) (Part_no v 0 41 w fun W hW => (h.on hW).begin_no (.inr (.inl ⟨by omega, hv, rfl⟩)))

end Go.Proofs.YtnjkagopmfenkaaGreat.V4

namespace Go.Proofs.YtnjkagopmfenkaaGreat.V4
open Go Go.RowKit Go.ChangeShapes Go.WideShapes Go.ChangeAt
set_option linter.unusedVariables false
set_option linter.unusedSimpArgs false

section
variable {tos id : Int} {df mf : Bool} {off ttl proto s0 s1 s2 s3 d0 d1 d2 d3 sm : Int} {opts body : List Int} {all : Nat}
theorem cut_df (ho : 0 ≤ off ∧ off ≤ 8191) : decide (cutW off df mf / 256 / 64 % 2 = 1) = df := by
  unfold cutW
  cases df <;> cases mf <;> simp <;> omega
theorem cut_mf (ho : 0 ≤ off ∧ off ≤ 8191) : decide (cutW off df mf / 256 / 32 % 2 = 1) = mf := by
  unfold cutW
  cases df <;> cases mf <;> simp <;> omega
theorem cut_off (ho : 0 ≤ off ∧ off ≤ 8191) : cutW off df mf / 256 % 32 * 256 + cutW off df mf % 256 = off := by
  unfold cutW
  cases df <;> cases mf <;> simp <;> omega
theorem rhd_head (hn : opts.length ≤ 40) (h4 : opts.length % 4 = 0) : pHead (rhd (20 + opts.length) all tos id (cutW off df mf) ttl proto s0 s1 s2 s3 d0 d1 d2 d3 sm opts ++ body) = ((20 + opts.length : Nat) : Int) := by
  show (64 + ((20 + opts.length : Nat) : Int) / 4) % 16 * 4 = _
  omega
theorem rhd_ver (hn : opts.length ≤ 40) : gz (rhd (20 + opts.length) all tos id (cutW off df mf) ttl proto s0 s1 s2 s3 d0 d1 d2 d3 sm opts ++ body) 0 / 16 = 4 := by
  show (64 + ((20 + opts.length : Nat) : Int) / 4) / 16 = 4
  omega
theorem rhd_all : pAll (rhd (20 + opts.length) all tos id (cutW off df mf) ttl proto s0 s1 s2 s3 d0 d1 d2 d3 sm opts ++ body) = (all : Int) := by
  show (all : Int) / 256 * 256 + (all : Int) % 256 = all
  omega
theorem rhd_opts : ((rhd (20 + opts.length) all tos id (cutW off df mf) ttl proto s0 s1 s2 s3 d0 d1 d2 d3 sm opts ++ body).drop 20).take opts.length = opts := by
  show ((opts ++ body).drop 0).take opts.length = opts
  simp
theorem rhd_body : (rhd (20 + opts.length) all tos id (cutW off df mf) ttl proto s0 s1 s2 s3 d0 d1 d2 d3 sm opts ++ body).drop (20 + opts.length) = body := by
  rw [List.drop_append_of_le_length (by rw [rhd_length]; omega), List.drop_of_length_le (by rw [rhd_length]; omega)]
  rfl
theorem rhd_says (hn : opts.length ≤ 40) (h4 : opts.length % 4 = 0) (ho : 0 ≤ off ∧ off ≤ 8191) {W : World} {c : List Value}
    (h : SaysD (rhd (20 + opts.length) all tos id (cutW off df mf) ttl proto s0 s1 s2 s3 d0 d1 d2 d3 sm opts ++ body) W c) : Dgram W c tos id df mf off ttl proto s0 s1 s2 s3 d0 d1 d2 d3 opts body := by
  unfold SaysD at h
  rw [rhd_head hn h4, show (((20 + opts.length : Nat) : Int)).toNat = 20 + opts.length by omega, show 20 + opts.length - 20 = opts.length by omega, rhd_opts, rhd_body] at h
  have e1 : id / 256 * 256 + id % 256 = id := by omega
  have e2 := cut_df (df := df) (mf := mf) ho
  have e3 := cut_mf (df := df) (mf := mf) ho
  have e4 := cut_off (df := df) (mf := mf) ho
  have h' : Dgram W c tos (id / 256 * 256 + id % 256) (decide (cutW off df mf / 256 / 64 % 2 = 1)) (decide (cutW off df mf / 256 / 32 % 2 = 1)) (cutW off df mf / 256 % 32 * 256 + cutW off df mf % 256) ttl proto s0 s1 s2 s3 d0 d1 d2 d3 opts body := h
  rwa [e1, e2, e3, e4] at h'
end
theorem chk_zero4 {off : Int} {no nb : Nat} (hk : chk off no nb = 0) : no % 4 = 0 := by
  unfold chk badV longV at hk
  by_cases h : no % 4 = 0
  · exact h
  · simp [h] at hk
/-- A new box with a datagram in it, its block told. -/
theorem box17k (w : World) (V : List Value) (hV : V.length = 17 ∧ ∀ v ∈ V, v.oneCell' = true) :
    ∃ w3, (Instr.storeAt 27 (.pointer (some ⟨w.heap.size, 0, none⟩)) (.agg V.toArray)).run Tryz.prog (w.alloc (.cells zeroC.toArray 27)) = .ok () w3 ∧ w3.heap[w.heap.size]? = some (.cells V.toArray 27) ∧ Below w.heap.size w w3 ∧ w.heap.size < w3.heap.size := by
  have hb := blk_new w (.cells zeroC.toArray 27)
  have hs : ∀ j, j < V.length → ((w.alloc (.cells zeroC.toArray 27)).cell? ⟨w.heap.size, 0 + j, none⟩).isSome = true := fun j hj => by
    have hj' : j < zeroC.length := by have := hV.1; simp only [zeroC, List.length_cons, List.length_nil]; omega
    rw [Nat.zero_add, blk_cell hb (List.getElem?_eq_getElem hj')]
    rfl
  have hO : Only w.heap.size (w.alloc (.cells zeroC.toArray 27)) ((w.alloc (.cells zeroC.toArray 27)).setCells w.heap.size 0 V) := Only.sets _ _ _ (Only.refl _ _)
  have hk := blk_sets V 0 zeroC _ hb
  rw [setsL_all zeroC V (by rw [hV.1]; rfl)] at hk
  exact ⟨_, agg_store Tryz.sizeOf27 hV.1 hV.2 hs (blk_open hb), hk, ((Below.refl _ w).alloc (Nat.le_refl _) _).trans ((hO.below (Nat.le_refl _)).mono (by simp)), by rw [hO.size]; simp⟩
theorem wrL_fit {w : World} {c : List Value} {tos id : Int} {df mf : Bool} {off ttl proto s0 s1 s2 s3 d0 d1 d2 d3 : Int} {opts body : List Int} (h : Dgram w c tos id df mf off ttl proto s0 s1 s2 s3 d0 d1 d2 d3 opts body) (hk : chk off opts.length body.length = 0) :
    ∃ sm, wrL tos id df mf off ttl proto s0 s1 s2 s3 d0 d1 d2 d3 opts body = rhd (20 + opts.length) (20 + opts.length + body.length) tos id (cutW off df mf) ttl proto s0 s1 s2 s3 d0 d1 d2 d3 sm opts ++ body ∧ sm = 65535 - sumW 0 (wordsL (rhd (20 + opts.length) (20 + opts.length + body.length) tos id (cutW off df mf) ttl proto s0 s1 s2 s3 d0 d1 d2 d3 0 opts)) ∧ 0 ≤ sm ∧ sm ≤ 65535 ∧ Fit (rhd (20 + opts.length) (20 + opts.length + body.length) tos id (cutW off df mf) ttl proto s0 s1 s2 s3 d0 d1 d2 d3 sm opts ++ body) := by
  obtain ⟨hno, hnb, ho⟩ := chk_zero hk
  have hcw := cutW_range off df mf ho
  obtain ⟨so, sb, hc, hso, hsb⟩ := h.cells
  have hf0 := fun sm (hm : 0 ≤ sm ∧ sm ≤ 65535) => rhd_fit (size := 20 + opts.length) (all := 20 + opts.length + body.length) (sm := sm) (by omega) hnb h.ft h.hid hcw h.fl h.fp h.fs h.fd hso.fit hm
  have hrg := sumW_range (wordsL (rhd (20 + opts.length) (20 + opts.length + body.length) tos id (cutW off df mf) ttl proto s0 s1 s2 s3 d0 d1 d2 d3 0 opts)) 0 (by decide) (wordsL_words (hf0 0 (by decide)))
  refine ⟨_, by rw [wr_same]; rfl, rfl, by omega, by omega, ?_⟩
  intro z hz
  rcases List.mem_append.1 hz with hz | hz
  · exact hf0 _ (by omega) z hz
  · exact hsb.fit z hz

/-- Slices that come in within a datagram have room for what they hold. -/
theorem v4_room {H : Type} {enc : TypeId × Value → H} {W : World} {c : List Value} {d : DataW H} {p : List MemPlace} (h : DataW.Trod enc Tryz.prog W 0 (fun _ => true) true 27 (.agg c.toArray) d p) (j : Nat) (hj : j = 15 ∨ j = 16) :
    ∃ a n k, c[j]? = some (.slice a n k) ∧ n ≤ k ∧ (a = none → k = 0) := by
  obtain ⟨fuel, hf⟩ := h
  obtain ⟨xs, m, _, hx, hl, hxl, hi⟩ := DataW.trod_struct Tryz.underlying27 hf
  obtain ⟨x0, x1, x2, x3, x4, x5, x6, x7, x8, x9, x10, rfl⟩ := list11 hxl
  have g : ∃ x, DataW.trod enc Tryz.prog W 0 (fun _ => true) true m 25 ((c.drop j).take 1) = some x := by
    rcases hj with rfl | rfl
    · have e : DataW.trod enc Tryz.prog W 0 (fun _ => true) true m 25 ((c.drop 15).take (Tryz.prog.cellsOf 25)) = some x9 := hi 9 _ rfl
      rw [show Tryz.prog.cellsOf 25 = 1 by kernel_rfl] at e
      exact ⟨_, e⟩
    · have e : DataW.trod enc Tryz.prog W 0 (fun _ => true) true m 25 ((c.drop 16).take (Tryz.prog.cellsOf 25)) = some x10 := hi 10 _ rfl
      rw [show Tryz.prog.cellsOf 25 = 1 by kernel_rfl] at e
      exact ⟨_, e⟩
  obtain ⟨x, g⟩ := g
  have at1 : ∀ v, (c.drop j).take 1 = [v] → c[j]? = some v := fun v e => by
    have := congrArg (fun l => l[0]?) e
    simpa [List.getElem?_take, List.getElem?_drop] using this
  rcases open_ints Tryz.underlying25 Tryz.underlying5 (by kernel_rfl) g with ⟨e, _⟩ | ⟨a, len, cap, zs, e, _, hl, _⟩
  · exact ⟨none, 0, 0, at1 _ e, Nat.le_refl _, fun _ => rfl⟩
  · exact ⟨some a, len, cap, at1 _ e, hl, fun h => by cases h⟩
end Go.Proofs.YtnjkagopmfenkaaGreat.V4
