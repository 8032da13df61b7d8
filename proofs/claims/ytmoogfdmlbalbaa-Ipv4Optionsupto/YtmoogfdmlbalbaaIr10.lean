/-
  The document's reader of IPv4 datagrams: a length that is not so; a checksum that is not so.
-/
import Derived.Test.YtmoogfdmlbalbaaIr9
namespace Go.Proofs.Ytmoogfdmlbalbaa
open Go Go.RowKit
set_option linter.unusedVariables false
set_option linter.unusedSimpArgs false

set_option maxHeartbeats 1000000 in
set_option maxRecDepth 100000 in
theorem read_length_a (b off cap : Nat) (zs : List Int) (part : Bool) (w : World) (hf : Fit zs) (hm : zs.length ≤ 140737488351232) (hcap : zs.length ≤ cap) (hb : b < w.heap.size) (hc : ∀ j, j < zs.length → w.cell? ⟨b, off + j, none⟩ = some (.int .u8 (gz zs j))) (h20 : 20 ≤ zs.length) (hv : gz zs 0 / 16 = 4) (h1 : 20 ≤ gz zs 0 % 16 * 4) (h2 : gz zs 0 % 16 * 4 ≤ (zs.length : Int)) (h3 : gz zs 2 * 256 + gz zs 3 < (zs.length : Int)) :
    Calls Try.prog 41 #[.slice (some ⟨b, off, none⟩) zs.length cap, .bool part] w fun e w' => e = .returned (.tuple #[.agg zeroC.toArray, .int .i64 2, .int .i64 43]) ∧ Below w.heap.size w w' := by
  have hS := OneW.start w
  have k0 : (w.alloc (.cells zeroC.toArray 27)).cell? ⟨b, off, none⟩ = some (.int .u8 (gz zs 0)) := (hS.bel.cell (p := ⟨b, off, none⟩) hb).trans (hc 0 (by omega))
  have k2 : (w.alloc (.cells zeroC.toArray 27)).cell? ⟨b, off + 2, none⟩ = some (.int .u8 (gz zs 2)) := (hS.bel.cell (p := ⟨b, off + 2, none⟩) hb).trans (hc 2 (by omega))
  have k3 : (w.alloc (.cells zeroC.toArray 27)).cell? ⟨b, off + 3, none⟩ = some (.int .u8 (gz zs 3)) := (hS.bel.cell (p := ⟨b, off + 3, none⟩) hb).trans (hc 3 (by omega))
  have g0 := hf.gz 0
  have g2 := hf.gz 2
  have g3 := hf.gz 3
  have q0 : decide ((zs.length : Int) < 20) = false := by simp; omega
  have q1 : (gz zs 0 / 16 != 4) = false := by simp [hv]
  have q2 : decide (gz zs 0 % 16 * 4 < 20) = false := by simp; omega
  have q3 : decide ((zs.length : Int) < gz zs 0 % 16 * 4) = false := by simp; omega
  have q4 : decide (gz zs 2 * 256 + gz zs 3 < (zs.length : Int)) = true := by simp; omega
  obtain ⟨w3, hst, hrs, hbl⟩ := (hS.on (Below.refl _ _).drew).zero
  have HST : Hid _ := hst
  have HRS : Hid _ := hrs
  unfold zeroC at *
  clear hS hst hrs hc hf
  go_enter Try.func41, Try.ntmps41
  go_wp2
  go_region
  go_wp2_with ((with_reducible show wpList _ _ _ _ _ _); refine arm_store rfl (.tmp 4) _ 27 rfl rfl rfl HST.out ?_)
  refine bodyPost_ret (res3t rfl rfl HRS.out) rfl ?_
  exact ⟨rfl, hbl⟩

set_option maxHeartbeats 1000000 in
set_option maxRecDepth 100000 in
theorem read_length_b (b off cap : Nat) (zs : List Int) (w : World) (hf : Fit zs) (hm : zs.length ≤ 140737488351232) (hcap : zs.length ≤ cap) (hb : b < w.heap.size) (hc : ∀ j, j < zs.length → w.cell? ⟨b, off + j, none⟩ = some (.int .u8 (gz zs j))) (h20 : 20 ≤ zs.length) (hv : gz zs 0 / 16 = 4) (h1 : 20 ≤ gz zs 0 % 16 * 4) (h2 : gz zs 0 % 16 * 4 ≤ (zs.length : Int)) (h3 : (zs.length : Int) < gz zs 2 * 256 + gz zs 3) :
    Calls Try.prog 41 #[.slice (some ⟨b, off, none⟩) zs.length cap, .bool false] w fun e w' => e = .returned (.tuple #[.agg zeroC.toArray, .int .i64 2, .int .i64 43]) ∧ Below w.heap.size w w' := by
  have hS := OneW.start w
  have k0 : (w.alloc (.cells zeroC.toArray 27)).cell? ⟨b, off, none⟩ = some (.int .u8 (gz zs 0)) := (hS.bel.cell (p := ⟨b, off, none⟩) hb).trans (hc 0 (by omega))
  have k2 : (w.alloc (.cells zeroC.toArray 27)).cell? ⟨b, off + 2, none⟩ = some (.int .u8 (gz zs 2)) := (hS.bel.cell (p := ⟨b, off + 2, none⟩) hb).trans (hc 2 (by omega))
  have k3 : (w.alloc (.cells zeroC.toArray 27)).cell? ⟨b, off + 3, none⟩ = some (.int .u8 (gz zs 3)) := (hS.bel.cell (p := ⟨b, off + 3, none⟩) hb).trans (hc 3 (by omega))
  have g0 := hf.gz 0
  have g2 := hf.gz 2
  have g3 := hf.gz 3
  have q0 : decide ((zs.length : Int) < 20) = false := by simp; omega
  have q1 : (gz zs 0 / 16 != 4) = false := by simp [hv]
  have q2 : decide (gz zs 0 % 16 * 4 < 20) = false := by simp; omega
  have q3 : decide ((zs.length : Int) < gz zs 0 % 16 * 4) = false := by simp; omega
  have q4 : decide (gz zs 2 * 256 + gz zs 3 < (zs.length : Int)) = false := by simp; omega
  have q5 : decide ((zs.length : Int) < gz zs 2 * 256 + gz zs 3) = true := by simp; omega
  obtain ⟨w3, hst, hrs, hbl⟩ := (hS.on (Below.refl _ _).drew).zero
  have HST : Hid _ := hst
  have HRS : Hid _ := hrs
  unfold zeroC at *
  clear hS hst hrs hc hf
  go_enter Try.func41, Try.ntmps41
  go_wp2
  go_region
  go_wp2_with ((with_reducible show wpList _ _ _ _ _ _); refine arm_store rfl (.tmp 4) _ 27 rfl rfl rfl HST.out ?_)
  refine bodyPost_ret (res3t rfl rfl HRS.out) rfl ?_
  exact ⟨rfl, hbl⟩

set_option maxHeartbeats 1000000 in
set_option maxRecDepth 100000 in
theorem read_sum (b off cap : Nat) (zs : List Int) (w : World) (hf : Fit zs) (hm : zs.length ≤ 140737488351232) (hcap : zs.length ≤ cap) (hb : b < w.heap.size) (hc : ∀ j, j < zs.length → w.cell? ⟨b, off + j, none⟩ = some (.int .u8 (gz zs j))) (h20 : 20 ≤ zs.length) (hv : gz zs 0 / 16 = 4) (h1 : 20 ≤ gz zs 0 % 16 * 4) (h2 : gz zs 0 % 16 * 4 ≤ (zs.length : Int)) (h3 : gz zs 2 * 256 + gz zs 3 = (zs.length : Int)) (hsum : sumW 0 (wordsL (zs.take (gz zs 0 % 16 * 4).toNat)) ≠ 65535) :
    Calls Try.prog 41 #[.slice (some ⟨b, off, none⟩) zs.length cap, .bool false] w fun e w' => e = .returned (.tuple #[.agg zeroC.toArray, .int .i64 10, .int .i64 44]) ∧ Below w.heap.size w w' := by
  have hS := OneW.start w
  have k0 : (w.alloc (.cells zeroC.toArray 27)).cell? ⟨b, off, none⟩ = some (.int .u8 (gz zs 0)) := (hS.bel.cell (p := ⟨b, off, none⟩) hb).trans (hc 0 (by omega))
  have k2 : (w.alloc (.cells zeroC.toArray 27)).cell? ⟨b, off + 2, none⟩ = some (.int .u8 (gz zs 2)) := (hS.bel.cell (p := ⟨b, off + 2, none⟩) hb).trans (hc 2 (by omega))
  have k3 : (w.alloc (.cells zeroC.toArray 27)).cell? ⟨b, off + 3, none⟩ = some (.int .u8 (gz zs 3)) := (hS.bel.cell (p := ⟨b, off + 3, none⟩) hb).trans (hc 3 (by omega))
  have g0 := hf.gz 0
  have g2 := hf.gz 2
  have g3 := hf.gz 3
  have q0 : decide ((zs.length : Int) < 20) = false := by simp; omega
  have q1 : (gz zs 0 / 16 != 4) = false := by simp [hv]
  have q2 : decide (gz zs 0 % 16 * 4 < 20) = false := by simp; omega
  have q3 : decide ((zs.length : Int) < gz zs 0 % 16 * 4) = false := by simp; omega
  have q4 : decide (gz zs 2 * 256 + gz zs 3 < (zs.length : Int)) = false := by simp; omega
  have q5 : decide ((zs.length : Int) < gz zs 2 * 256 + gz zs 3) = false := by simp; omega
  have q6 : decide (gz zs 2 * 256 + gz zs 3 < gz zs 0 % 16 * 4) = false := by simp; omega
  have hS1 := hS.on ((Below.refl _ _).drew)
  have HS1 : Hid _ := hS1
  have hsl : BytesAt (w.alloc (.cells zeroC.toArray 27)).drew.heap.size (w.alloc (.cells zeroC.toArray 27)).drew (.slice (some ⟨b, off, none⟩) (gz zs 0 % 16 * 4).toNat cap) (zs.take (gz zs 0 % 16 * 4).toNat) := by
    have := piece_at (k := cap) (i := 0) (n := (gz zs 0 % 16 * 4).toNat) hb hf hm hc (by omega) (fun _ => rfl)
    rw [List.drop_zero] at this
    exact this.later hS1.bel
  have hfo := fold_ref _ _ _ _ _ (parts_one _ _ 25 _ hsl) (by simp; omega)
  rw [show ([zs.take (gz zs 0 % 16 * 4).toNat] : List (List Int)).flatten = zs.take (gz zs 0 % 16 * 4).toNat by simp, show (w.alloc (.cells zeroC.toArray 27)).drew.heap.size = w.heap.size + 1 by simp] at hfo
  generalize hsm : sumW 0 (wordsL (zs.take (gz zs 0 % 16 * 4).toNat)) = sm at *
  have q7 : (sm != 65535) = true := by simp [hsum]
  have hS2 := hS.on (((Below.refl _ _).alloc (Nat.le_refl _) (.cells #[.slice (some ⟨b, off, none⟩) (gz zs 0 % 16 * 4).toNat cap] 25)).drew)
  have HS2 : Hid _ := hS2
  have HFO : Hid _ := hfo
  unfold zeroC at *
  clear hS hS2 hc hf hS1 hsl hsum hfo hsm
  go_enter Try.func41, Try.ntmps41
  go_wp2
  go_region
  go_wp2_with fail
  refine Calls.mono HFO.out ?_
  rintro e3 w3 ⟨rfl, hb3⟩
  obtain ⟨w4, hst, hrs, hbl⟩ := (HS2.out.on hb3).zero
  have HST : Hid _ := hst
  have HRS : Hid _ := hrs
  unfold zeroC at HST HRS
  clear hst hrs hb3 HFO HS2 HS1
  go_wp2_with ((with_reducible show wpList _ _ _ _ _ _); refine arm_store rfl (.tmp 4) _ 27 rfl rfl rfl HST.out ?_)
  refine bodyPost_ret (res3t rfl rfl HRS.out) rfl ?_
  exact ⟨rfl, hbl⟩

end Go.Proofs.Ytmoogfdmlbalbaa
