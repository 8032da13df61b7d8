/-
  IPv6 prefixes: Has6 of the program.
-/
import Derived.Test.YthejkiocndoflaaDoorSix5
namespace Go.Proofs.YthejkiocndoflaaDoor
open Go Go.RowKit
set_option linter.unusedVariables false
set_option linter.unusedSimpArgs false

theorem blR_all {l : List Int} (h : FitB l) (hl : l.length = 16) : blR 128 l = l := by
  apply List.ext_getElem?
  intro i
  unfold blR
  rw [List.getElem?_mapIdx]
  by_cases hi : i < l.length
  · rw [List.getElem?_eq_getElem hi]
    have hz := h _ (List.getElem_mem hi)
    simp only [Option.map_some]
    congr 1
    unfold bl msk
    rw [show (min (max ((128 : Int) - 8 * i) 0) 8).toNat = 8 by omega]
    have e : (l[i].toNat &&& (255 - 255 / 2 ^ 8)) = l[i].toNat := by
      rw [show 255 - 255 / 2 ^ 8 = 2 ^ 8 - 1 from rfl, Nat.and_two_pow_sub_one_eq_mod]
      omega
    rw [e]
    omega
  · rw [List.getElem?_eq_none (by omega)]
    rfl
theorem ok128 {l : List Int} (h : FitB l) (hl : l.length = 16) : okP6 l 128 = true := by
  unfold okP6
  rw [decide_eq_true (by omega), Bool.true_and, decide_eq_true (blR_all h hl).symm]
def has6 (l : List Int) (n : Int) (k : List Int) : Bool := decide (blR n k = l)
theorem has6_cov {l k : List Int} {n : Int} (kf : FitB k) (kl : k.length = 16) : (both6 l n k 128 && cov6 l n k 128) = (okP6 l n && has6 l n k) ∧ both6 l n k 128 = okP6 l n := by
  have e : both6 l n k 128 = okP6 l n := by unfold both6; rw [ok128 kf kl, Bool.and_true]
  refine ⟨?_, e⟩
  rw [e]
  cases hok : okP6 l n
  · rfl
  · have hn : 0 ≤ n ∧ n ≤ 128 := by simp [okP6] at hok; exact hok.1
    unfold cov6 has6
    rw [decide_eq_true hn.2, Bool.true_and]
    congr 1
    rw [decide_eq_decide]
    exact ⟨Eq.symm, Eq.symm⟩

set_option maxHeartbeats 2000000 in
set_option maxRecDepth 100000 in
theorem Has6_calls (l : List Int) (n : Int) (k : List Int) (w : World) (hf : FitB l) (hl : l.length = 16) (kf : FitB k) (kl : k.length = 16) (hn : -9223372036854775808 ≤ n ∧ n ≤ 9223372036854775807) :
    Calls Tryd.prog 40 #[P6 l n, A6 k] w fun e w' => e = .returned (.tuple #[.bool (okP6 l n && has6 l n k), .int .i64 (if okP6 l n then 0 else 22)]) ∧ Below w.heap.size w w' := by
  have hs := has6_cov (l := l) (n := n) kf kl
  have hc : ∀ w : World, Calls Tryd.prog 42 #[P6 l n, P6 k 128] w fun e w' => e = .returned (.tuple #[.bool (okP6 l n && has6 l n k), .int .i64 (if okP6 l n then 0 else 22)]) ∧ Below w.heap.size w w' := by
    intro w
    have h := Cover6_calls l n k 128 w hf hl kf kl hn (by omega)
    rw [hs.1, hs.2] at h
    exact h
  generalize (okP6 l n && has6 l n k) = r1 at *
  generalize (if okP6 l n = true then (0 : Int) else 22) = r2 at *
  have b0 := blk_alloc (blk_new w (.cells (cp6 l n).toArray 40)) (.cells (u8s k).toArray 31)
  have b1 := blk_new (w.alloc (.cells (cp6 l n).toArray 40)) (.cells (u8s k).toArray 31)
  rw [World.size_alloc] at b1
  have hB : Below w.heap.size w ((w.alloc (.cells (cp6 l n).toArray 40)).alloc (.cells (u8s k).toArray 31)) := ((Below.refl _ w).alloc (Nat.le_refl _) _).alloc (by simp) _
  have HL : Hid _ := loadP6 hl (CellsAt.pfx hl b0).1
  have HK : Hid _ := load6 kl (CellsAt.of_blk b1)
  have HU : Hid _ := build6 k 128 kl
  have HC : Hid _ := hc
  have HB : Hid _ := hB
  clear hc hB hs b0 b1
  go_enter Tryd.func40, Tryd.ntmps40
  go_wp2_with first
    | ((with_reducible show wpList _ _ _ _ _ _); refine arm_load rfl (.tmp 2) 40 rfl rfl HL.out ?_)
    | ((with_reducible show wpList _ _ _ _ _ _); refine arm_load rfl (.tmp 3) 31 rfl rfl HK.out ?_)
    | ((with_reducible show wpList _ _ _ _ _ _); refine arm_build rfl 40 [(0, .tmp 7), (1, .const (.int .i64 128))] rfl rfl (HU.out _) ?_)
  refine Calls.mono (HC.out _) ?_
  rintro e w2 ⟨rfl, hB2⟩
  go_wp2
  go_ret2
  exact ⟨rfl, HB.out.trans (hB2.mono HB.out.size)⟩

end Go.Proofs.YthejkiocndoflaaDoor
