/-
  Port sets: the runs of the program, as an iterator.
-/
import Derived.Test.YtmcofmdogopfjaaPb2
import Derived.Test.YtmcofmdogopfjaaPb3
import Derived.Laws.OwnMore
namespace Go.Proofs.Ytmcofmdogopfjaa
open Go Go.RowKit Go.Shelf
set_option linter.unusedVariables false
set_option linter.unusedSimpArgs false
attribute [local go_sem] Oper.semAt_some

def portV (x : Nat × Nat) : Value := .agg #[.int .u16 (x.1 : Nat), .int .u16 (x.2 : Nat)]

set_option maxRecDepth 100000 in
set_option maxHeartbeats 1000000 in
theorem runs1_gives (Bp F S T B : Nat) (hS : 1 ≤ S) (hin : ∀ i, i < B → F + i * T + S ≤ 65536) (hT : T ≤ 65536) (hBb : B ≤ 65536) :
    GivesC Try.prog 35 #[.pointer (some ⟨Bp, 0, none⟩)] ((blkL F S T B).map portV) Bp (SHO F S T B) := by
  intro l J W hJ hJB hY h0 n
  refine callsIn_wide.2 ((callsIn_wide (n := 9)).1 ?_)
  have HIN : Hid _ := hin
  have HY : Hid (∀ i W1, i < B → J i W1 → ∀ m, YieldAt Fence.wide m Try.prog l #[.agg #[.int .u16 (F + i * T : Nat), .int .u16 (F + i * T + S - 1 : Nat)]] W1 fun e W' => e = .returned (.bool true) ∧ J (i + 1) W') := fun i W1 hi hj m => hY i _ W1 (by rw [List.getElem?_map, blkL_at F S T B i hi]; rfl) hj m
  have HL : Hid (((blkL F S T B).map portV).length = B) := (List.length_map _).trans (blkL_length F S T B)
  rw [HL.out]
  clear hin hY HL
  have HJB : Hid _ := hJB
  have hbW := hJB 0 W h0
  clear hJB
  obtain ⟨c0, c1, c2, c3⟩ := cell4_of hbW
  refine callsIn_of_wp Try.func35 rfl trivial ?_ rfl
  simp only [Try.ntmps35, List.size_toArray, List.length_cons, List.length_nil, Nat.reduceAdd, Nat.reduceSub, Array.replicate_succ, Array.replicate_zero, List.push_toArray, List.append_toArray, List.nil_append, List.cons_append]
  gi_wp2
  gi_loopw [7] (fun i wr => ∃ k : Nat, k ≤ B ∧ i = .int .i64 k ∧ J k wr) (fun i _ => B - (intOf i).toNat)
  case atStart => exact ⟨0, Nat.zero_le _, rfl, h0⟩
  case round =>
    obtain ⟨k, hk, rfl, hj⟩ := hrel
    by_cases hlt : k < B
    · have hbr := HJB.out k wr hj
      clear c0 c1 c2 c3
      obtain ⟨c0, c1, c2, c3⟩ := cell4_of hbr
      have hi := HIN.out k hlt
      have e1 : (k : Int) * (T : Int) = ((k * T : Nat) : Int) := by rw [Int.natCast_mul]
      obtain ⟨q, hq⟩ : ∃ q, q = k * T := ⟨_, rfl⟩
      have hyk := HY.out k wr hlt hj (9 - 1)
      rw [← hq] at e1 hi hyk
      obtain ⟨x1, hx1⟩ : ∃ x1, x1 = F + q := ⟨_, rfl⟩
      obtain ⟨x2, hx2⟩ : ∃ x2, x2 = F + q + S - 1 := ⟨_, rfl⟩
      have e2 : (F : Int) + (q : Int) = (x1 : Int) := by omega
      have e3 : (x1 : Int) + (S : Int) - 1 = (x2 : Int) := by omega
      have b1 : x1 < 65536 := by omega
      have b2 : x2 < 65536 := by omega
      rw [← hx2, ← hx1] at hyk
      obtain ⟨fn, tmps, assign, body, hy, hR⟩ := hyk
      have hlt2 : (k : Int) < (B : Int) := by omega
      clear HY HIN hq hx1 hx2
      gi_wp2
      refine hR.mono ?_
      rintro e W3 ⟨rfl, hj3⟩
      gi_wp2
      exact ⟨⟨k + 1, by omega, by simp, hj3⟩, by simp [intOf]; omega⟩
    · obtain rfl : k = B := by omega
      gi_wp2
      go_end0
      exact ⟨⟨_, rfl⟩, hj⟩

set_option maxHeartbeats 1000000 in
theorem runs_calls (f s t b : Nat) (w : World) (hs : s ≤ 65536) (hb : b ≤ 65536) :
    Calls Try.prog 34 #[SH f s t b] w fun e w' => e = .returned (.func (.func 35) #[] #[.pointer (some ⟨w.heap.size, 0, none⟩)]) ∧ Below w.heap.size w w' ∧ w'.heap[w.heap.size]? = some (SHO f (if s = t then b * s else s : Nat) t (if s = t then 1 else b : Nat)) := by
  have hB := bA w (SHO f s t b)
  by_cases h : s = t
  · rw [if_pos h, if_pos h]
    have HN : Hid _ := fun W => count_calls f s t b W hs hb
    have h1 : ((s : Int) == (t : Int)) = true := by rw [h]; exact beq_self_eq_true _
    clear h
    generalize b * s = q at *
    go_enter Try.func34, Try.ntmps34
    go_wp2_with fail
    refine (HN.out _).mono ?_
    rintro e w2 ⟨rfl, hB2⟩
    have hk := blk_on (blk_new w (SHO f s t b)) hB2
    obtain ⟨c0, c1, c2, c3⟩ := cell4_of hk
    have hf : ∀ i, w2.frozen? ⟨w.heap.size, i, none⟩ = false := fun i => by simp [World.frozen?, hk]
    have HK : Hid _ := hk
    go_wp2
    go_ret
    have hBw := hB.trans (hB2.mono hB.size)
    refine ⟨rfl, ?_, ?_⟩
    · exact (hBw.setCell (p := ⟨w.heap.size, 1, none⟩) (Nat.le_refl _) _).setCell (p := ⟨w.heap.size, 3, none⟩) (Nat.le_refl _) _
    · simp [World.setCell, Array.getElem?_modify, HK.out]
  · rw [if_neg h, if_neg h]
    have h1 : ((s : Int) == (t : Int)) = false := beq_eq_false_iff_ne.2 (by omega)
    clear h
    go_enter Try.func34, Try.ntmps34
    go_wp2
    go_ret
    exact ⟨rfl, hB, blk_new w _⟩

end Go.Proofs.Ytmcofmdogopfjaa
