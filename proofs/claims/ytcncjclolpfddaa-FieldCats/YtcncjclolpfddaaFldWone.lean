/-
  The contract of write once more: no other block is turned.
-/
import Derived.Test.YtcncjclolpfddaaFldWrite
namespace Go.Proofs.Ytcncjclolpfddaa
set_option linter.unusedVariables false
set_option linter.unusedSimpArgs false
open Go Go.RowKit
attribute [local go_sem] Oper.semAt_some

set_option maxHeartbeats 1000000 in
theorem write_only (g cap base : Nat) (zs : List Int) (p n v : Nat) (w : World) (hf : FitB zs) (hl : zs.length ≤ 140737488351232) (h : OwnG base w g zs) (hp : p + n ≤ 8 * zs.length) (hn : n ≤ 64) (hv : v < 18446744073709551616) :
    Calls Try.prog 33 #[.slice (some ⟨g, 0, none⟩) zs.length cap, .int .i64 p, .int .i64 n, .int .u64 v] w fun e w' => e = .returned (.tuple #[]) ∧ OwnG base w' g (writeL zs p n v n) ∧ Below base w w' ∧ w'.heap.size = w.heap.size ∧ ∀ j, j ≠ g → w'.heap[j]? = w.heap[j]? := by
  go_enter Try.func33, Try.ntmps33
  go_wp2
  go_loopw [11] (fun i wr => ∃ k : Nat, k ≤ n ∧ i = .int .i64 k ∧ OwnG base wr g (writeL zs p n v k) ∧ Below base w wr ∧ wr.heap.size = w.heap.size ∧ ∀ j, j ≠ g → wr.heap[j]? = w.heap[j]?) (fun i _ => n - (intOf i).toNat)
  case atStart => exact ⟨0, Nat.zero_le _, rfl, h, Below.refl _ _, rfl, fun _ _ => rfl⟩
  case round =>
    obtain ⟨k, hk, rfl, ho, hB, hs, hoth⟩ := hrel
    have HOT : Hid _ := hoth
    clear hoth
    by_cases hlt : k < n
    · have hset : writeL zs p n v (k + 1) = (writeL zs p n v k).set ((p + k) / 8) ((setN ((writeL zs p n v k)[(p + k) / 8]?.getD 0).toNat (7 - (p + k) % 8) (bk v (n - 1 - k)) : Nat) : Int) := rfl
      have hfit := fit_at (writeL_fit hf p n v k) ((p + k) / 8)
      have hlen : (writeL zs p n v k).length = zs.length := writeL_length ..
      have hcc := ho.cell ((p + k) / 8) (by omega)
      have hop := ho.open ((p + k) / 8)
      have hos := ho.set ((p + k) / 8) (by omega)
      generalize hy : writeL zs p n v (k + 1) = y at *
      have HY : Hid _ := hy
      clear hy
      generalize writeL zs p n v k = x at *
      have hbit := bit_u64 v (n - 1 - k) (by omega) (by omega)
      rw [Int.toNat_natCast] at hbit
      have ho1 := or_mask (x[(p + k) / 8]?.getD 0) (p + k) hfit
      have ho2 := an_mask (x[(p + k) / 8]?.getD 0) (p + k) hfit
      generalize x[(p + k) / 8]?.getD 0 = z at *
      have hb2 := bk_lt v (n - 1 - k)
      generalize bk v (n - 1 - k) = bb at *
      have hbb : bb = 0 ∨ bb = 1 := by omega
      rcases hbb with rfl | rfl
      · generalize setN z.toNat (7 - (p + k) % 8) 0 = s at *
        have HS : Hid _ := hset
        have HO : Hid _ := hos
        clear hset hos ho1
        go_wp2
        refine ⟨⟨k + 1, by omega, by simp, ?_, hB.trans (below_set _ _ ho.low), by rw [← hs]; simp [World.setCell], fun j hj => (Below.heap_setCell _ _ _ _ hj).trans (HOT.out j hj)⟩, by simp [intOf]; omega⟩
        rw [HY.out, HS.out]
        exact HO.out _
      · generalize setN z.toNat (7 - (p + k) % 8) 1 = s at *
        have HS : Hid _ := hset
        have HO : Hid _ := hos
        clear hset hos ho2
        go_wp2
        refine ⟨⟨k + 1, by omega, by simp, ?_, hB.trans (below_set _ _ ho.low), by rw [← hs]; simp [World.setCell], fun j hj => (Below.heap_setCell _ _ _ _ hj).trans (HOT.out j hj)⟩, by simp [intOf]; omega⟩
        rw [HY.out, HS.out]
        exact HO.out _
    · obtain rfl : k = n := by omega
      go_wp2
      exact bodyPost_end (results_none rfl _ _ _) rfl ⟨rfl, ho, hB, hs, HOT.out⟩

end Go.Proofs.Ytcncjclolpfddaa
