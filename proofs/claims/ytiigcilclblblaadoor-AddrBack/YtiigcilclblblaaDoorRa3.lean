/-
  The document's Text4.
-/
import Derived.Test.YtiigcilclblblaaDoorRa2
import Derived.Test.YtiigcilclblblaaDoorAddrText4
namespace Go.Proofs.YtiigcilclblblaaDoor
open Go Go.RowKit
set_option linter.unusedVariables false
set_option linter.unusedSimpArgs false

/-- The text of the first k bytes. -/
def tx4 (l : List Int) : Nat → List UInt8
  | 0 => []
  | k + 1 => (if k = 0 then tx4 l k else tx4 l k ++ [46]) ++ Lib.itoa (l[k]?.getD 0)
theorem tx4_all (a0 a1 a2 a3 : Int) : tx4 [a0, a1, a2, a3] 4 = text4 [a0, a1, a2, a3] := by
  simp [tx4, text4, Lib.join_cons, Lib.joinTail]
theorem tx4_len {l : List Int} (h : ∀ k, k < 4 → Byte (l[k]?.getD 0)) : ∀ k, k ≤ 4 → (tx4 l k).length ≤ 1001 * k
  | 0, _ => by simp [tx4]
  | k + 1, hk => by
    have ih := tx4_len h k (by omega)
    have hi := itoa_len (h k (by omega))
    rw [tx4]
    split <;> simp <;> omega
theorem str_app (a b : List UInt8) : (⟨a.toArray⟩ : ByteArray) ++ (⟨b.toArray⟩ : ByteArray) = ⟨(a ++ b).toArray⟩ := by
  apply ByteArray.ext
  simp [ByteArray.data_append]

set_option maxHeartbeats 2000000 in
set_option maxRecDepth 100000 in
theorem RText4_calls (a0 a1 a2 a3 : Int) (h0 : Byte a0) (h1 : Byte a1) (h2 : Byte a2) (h3 : Byte a3) (w : World) (ht : Tabs w) :
    Calls Tryd.prog 16 #[addrV [a0, a1, a2, a3]] w fun e w' => e = .returned (strV (text4 [a0, a1, a2, a3])) ∧ Below w.heap.size w w' := by
  show Calls Tryd.prog _ #[.agg #[.int .u8 a0, .int .u8 a1, .int .u8 a2, .int .u8 a3]] w _
  rw [← tx4_all]
  have HT : Hid _ := ht
  clear ht
  have b0 : 0 ≤ a0 ∧ a0 < 256 := h0
  have b1 : 0 ≤ a1 ∧ a1 < 256 := h1
  have b2 : 0 ≤ a2 ∧ a2 < 256 := h2
  have b3 : 0 ≤ a3 ∧ a3 < 256 := h3
  have hB1 : Below w.heap.size w (w.alloc (.cells #[.int .u8 a0, .int .u8 a1, .int .u8 a2, .int .u8 a3] 23)) := (Below.refl _ w).alloc (Nat.le_refl _) _
  have hk := heap_alloc_new w (.cells #[.int .u8 a0, .int .u8 a1, .int .u8 a2, .int .u8 a3] 23)
  have hz : w.heap.size < (w.alloc (.cells #[.int .u8 a0, .int .u8 a1, .int .u8 a2, .int .u8 a3] 23)).heap.size := by simp
  go_enter Tryd.func16, Tryd.ntmps16
  go_wp2_with fail
  generalize w.alloc (.cells #[.int .u8 a0, .int .u8 a1, .int .u8 a2, .int .u8 a3] 23) = w1 at *
  go_loopw [3, 4] (fun v3 v4 wr => ∃ (k : Nat), v4 = .int .i64 k ∧ k ≤ 4 ∧ v3 = strV (tx4 [a0, a1, a2, a3] k) ∧ Below w1.heap.size w1 wr) (fun _ v4 _ => 4 - (intOf v4).toNat)
  case atStart => exact ⟨0, rfl, by decide, rfl, Below.refl _ _⟩
  case round =>
    obtain ⟨k, rfl, hkk, rfl, hb⟩ := hrel
    have hbk := (hb.block _ hz).trans hk
    have c0 : wr.cell? ⟨w.heap.size, 0, none⟩ = some (.int .u8 a0) := by simp [World.cell?, hbk]
    have c1 : wr.cell? ⟨w.heap.size, 1, none⟩ = some (.int .u8 a1) := by simp [World.cell?, hbk]
    have c2 : wr.cell? ⟨w.heap.size, 2, none⟩ = some (.int .u8 a2) := by simp [World.cell?, hbk]
    have c3 : wr.cell? ⟨w.heap.size, 3, none⟩ = some (.int .u8 a3) := by simp [World.cell?, hbk]
    have hT := HT.out wr (hB1.trans (hb.mono hB1.size))
    have hlen := tx4_len (l := [a0, a1, a2, a3]) (fun k hk => by
      match k, hk with
      | 0, _ => exact h0
      | 1, _ => exact h1
      | 2, _ => exact h2
      | 3, _ => exact h3) k hkk
    have hcase : k = 0 ∨ k = 1 ∨ k = 2 ∨ k = 3 ∨ k = 4 := by omega
    rcases hcase with rfl | rfl | rfl | rfl | rfl
    · have hC := itoa_calls a0 h0 wr hT
      have HC : Hid (Calls Tryd.prog 54 #[.int .i64 a0] wr fun e w' => e = .returned (.string ⟨(Lib.itoa a0).toArray⟩) ∧ Below wr.heap.size wr w') := hC
      have HX : Hid (tx4 [a0, a1, a2, a3] 1 = tx4 [a0, a1, a2, a3] 0 ++ Lib.itoa a0) := rfl
      have hY := itoa_len h0
      clear hC hT
      generalize tx4 [a0, a1, a2, a3] 0 = X at *
      generalize Lib.itoa a0 = Y at *
      go_wp2_with fail
      refine Calls.mono HC.out ?_
      rintro e W1 ⟨rfl, hb1⟩
      go_wp2
      refine ⟨⟨1, rfl, by decide, ?_, hb.trans (hb1.mono hb.size)⟩, by simp [intOf]⟩
      rw [HX.out]
      exact congrArg Value.string (str_app X Y)
    · have hC := itoa_calls a1 h1 wr hT
      have HC : Hid (Calls Tryd.prog 54 #[.int .i64 a1] wr fun e w' => e = .returned (.string ⟨(Lib.itoa a1).toArray⟩) ∧ Below wr.heap.size wr w') := hC
      have HX : Hid (tx4 [a0, a1, a2, a3] 2 = (tx4 [a0, a1, a2, a3] 1 ++ [46]) ++ Lib.itoa a1) := rfl
      have hY := itoa_len h1
      clear hC hT
      generalize tx4 [a0, a1, a2, a3] 1 = X at *
      generalize Lib.itoa a1 = Y at *
      go_wp2_with fail
      refine Calls.mono HC.out ?_
      rintro e W1 ⟨rfl, hb1⟩
      go_wp2
      refine ⟨⟨2, rfl, by decide, ?_, hb.trans (hb1.mono hb.size)⟩, by simp [intOf]⟩
      rw [HX.out]
      exact congrArg Value.string ((congrArg (· ++ (⟨Y.toArray⟩ : ByteArray)) (str_app X [46])).trans (str_app (X ++ [46]) Y))
    · have hC := itoa_calls a2 h2 wr hT
      have HC : Hid (Calls Tryd.prog 54 #[.int .i64 a2] wr fun e w' => e = .returned (.string ⟨(Lib.itoa a2).toArray⟩) ∧ Below wr.heap.size wr w') := hC
      have HX : Hid (tx4 [a0, a1, a2, a3] 3 = (tx4 [a0, a1, a2, a3] 2 ++ [46]) ++ Lib.itoa a2) := rfl
      have hY := itoa_len h2
      clear hC hT
      generalize tx4 [a0, a1, a2, a3] 2 = X at *
      generalize Lib.itoa a2 = Y at *
      go_wp2_with fail
      refine Calls.mono HC.out ?_
      rintro e W1 ⟨rfl, hb1⟩
      go_wp2
      refine ⟨⟨3, rfl, by decide, ?_, hb.trans (hb1.mono hb.size)⟩, by simp [intOf]⟩
      rw [HX.out]
      exact congrArg Value.string ((congrArg (· ++ (⟨Y.toArray⟩ : ByteArray)) (str_app X [46])).trans (str_app (X ++ [46]) Y))
    · have hC := itoa_calls a3 h3 wr hT
      have HC : Hid (Calls Tryd.prog 54 #[.int .i64 a3] wr fun e w' => e = .returned (.string ⟨(Lib.itoa a3).toArray⟩) ∧ Below wr.heap.size wr w') := hC
      have HX : Hid (tx4 [a0, a1, a2, a3] 4 = (tx4 [a0, a1, a2, a3] 3 ++ [46]) ++ Lib.itoa a3) := rfl
      have hY := itoa_len h3
      clear hC hT
      generalize tx4 [a0, a1, a2, a3] 3 = X at *
      generalize Lib.itoa a3 = Y at *
      go_wp2_with fail
      refine Calls.mono HC.out ?_
      rintro e W1 ⟨rfl, hb1⟩
      go_wp2
      refine ⟨⟨4, rfl, by decide, ?_, hb.trans (hb1.mono hb.size)⟩, by simp [intOf]⟩
      rw [HX.out]
      exact congrArg Value.string ((congrArg (· ++ (⟨Y.toArray⟩ : ByteArray)) (str_app X [46])).trans (str_app (X ++ [46]) Y))
    · go_wp2
      go_ret
      exact ⟨rfl, hB1.trans (hb.mono hB1.size)⟩

end Go.Proofs.YtiigcilclblblaaDoor
