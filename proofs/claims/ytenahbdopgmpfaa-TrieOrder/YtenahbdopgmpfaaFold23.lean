/-
  The statement TrieNobody.
  An operation on a table as an argument.
-/
import Derived.Test.YtenahbdopgmpfaaFold22
import Derived.Test.YtenahbdopgmpfaaFold06
namespace Go.Proofs.Ytenahbdopgmpfaa
open Go Go.RowKit Go.Shelf
set_option linter.unusedVariables false
set_option linter.unusedSimpArgs false

/-- The cells of an Op. -/
def opC (kd : Int) (cP cQ : List Value) (a b : List Int) (v : Int) : List Value := [.int .i64 kd] ++ (cP ++ (cQ ++ (u8s a ++ (u8s b ++ [.int .i64 v]))))
section
variable {W : World} {n : Nat} {kd v : Int} {cP cQ : List Value} {a b : List Int}
theorem op_P (h : W.heap[n]? = some (.cells (opC kd cP cQ a b v).toArray 41)) (hP : cP.length = 5) : (Instr.loadAt 35 (.pointer (some ⟨n, 1, none⟩))).run Try.prog W = .ok (.agg cP.toArray) W := by
  have c := CellsAt.of_blk h
  rw [List.toList_toArray] at c
  have c2 := CellsAt.part c
  exact agg_load (n := 5) (fun w => by kernel_rfl) (fun w => by kernel_rfl) hP c2
theorem op_Q (h : W.heap[n]? = some (.cells (opC kd cP cQ a b v).toArray 41)) (hP : cP.length = 5) (hQ : cQ.length = 17) : (Instr.loadAt 39 (.pointer (some ⟨n, 6, none⟩))).run Try.prog W = .ok (.agg cQ.toArray) W := by
  have c := CellsAt.of_blk h
  rw [List.toList_toArray, opC, ← List.append_assoc] at c
  have c2 := CellsAt.part c
  rw [show ([Value.int .i64 kd] ++ cP).length = 6 by simp [hP]] at c2
  exact agg_load (n := 17) (fun w => by kernel_rfl) (fun w => by kernel_rfl) hQ c2
theorem op_A (h : W.heap[n]? = some (.cells (opC kd cP cQ a b v).toArray 41)) (hP : cP.length = 5) (hQ : cQ.length = 17) (ha : a.length = 4) : (Instr.loadAt 33 (.pointer (some ⟨n, 23, none⟩))).run Try.prog W = .ok (.agg (u8s a).toArray) W := by
  have c := CellsAt.of_blk h
  rw [List.toList_toArray, opC, ← List.append_assoc, ← List.append_assoc] at c
  have c2 := CellsAt.part c
  rw [show ([Value.int .i64 kd] ++ cP ++ cQ).length = 23 by simp [hP, hQ]] at c2
  exact agg_load (n := 4) (fun w => by kernel_rfl) (fun w => by kernel_rfl) (by simp [u8s, ha]) c2
theorem op_B (h : W.heap[n]? = some (.cells (opC kd cP cQ a b v).toArray 41)) (hP : cP.length = 5) (hQ : cQ.length = 17) (ha : a.length = 4) (hb : b.length = 16) : (Instr.loadAt 37 (.pointer (some ⟨n, 27, none⟩))).run Try.prog W = .ok (.agg (u8s b).toArray) W := by
  have c := CellsAt.of_blk h
  rw [List.toList_toArray, opC, ← List.append_assoc, ← List.append_assoc, ← List.append_assoc] at c
  have c2 := CellsAt.part c
  rw [show ([Value.int .i64 kd] ++ cP ++ cQ ++ u8s a).length = 27 by simp [hP, hQ, u8s, ha]] at c2
  exact agg_load (n := 16) (fun w => by kernel_rfl) (fun w => by kernel_rfl) (by simp [u8s, hb]) c2
end
section
variable {w : World} {kd v : Int} {cP cQ : List Value} {a b : List Int}
set_option maxHeartbeats 8000000 in
set_option maxRecDepth 100000 in
theorem trieNobody_walk (hP : cP.length = 5) (hQ : cQ.length = 17) (ha : a.length = 4) (hb : b.length = 16) (fa : FitB a) (fb : FitB b) :
    Calls Try.prog 7 #[.agg (opC kd cP cQ a b v).toArray] w fun e w' => e = .returned (.bool true) ∧ Below w.heap.size w w' := by
  obtain ⟨n, hn⟩ : ∃ n, w.heap.size = n := ⟨_, rfl⟩
  obtain ⟨W1, hW1⟩ : ∃ W1, W1 = w.alloc (.cells (opC kd cP cQ a b v).toArray 41) := ⟨_, rfl⟩
  have hB1 : Below n w W1 := by rw [hW1, ← hn]; exact (Below.refl w.heap.size w).alloc (Nat.le_refl _) _
  have hx1 : W1.heap[n]? = some (.cells (opC kd cP cQ a b v).toArray 41) := by rw [hW1, ← hn]; exact blk_new w _
  have hs1 : W1.heap.size = n + 1 := by rw [hW1, ← hn]; simp
  obtain ⟨W2, hW2⟩ : ∃ W2, W2 = W1.alloc (.cells #[.bool false, .int .i64 0, .int .i64 0, .nilIface, .nilIface] 76) := ⟨_, rfl⟩
  have hB2 : Below W1.heap.size W1 W2 := by rw [hW2]; exact (Below.refl W1.heap.size W1).alloc (Nat.le_refl _) _
  have hz2 : W2.heap[n + 1]? = some (.cells [Value.bool false, .int .i64 0, .int .i64 0, .nilIface, .nilIface].toArray 76) := by rw [hW2, ← hs1]; exact blk_new W1 _
  have hs2 : W2.heap.size = n + 2 := by rw [hW2]; simp [hs1]
  obtain ⟨W3, hW3⟩ : ∃ W3, W3 = W2.alloc (.cells #[.pointer none, .pointer (some ⟨n + 1, 0, none⟩)] 23) := ⟨_, rfl⟩
  have hB3 : Below W2.heap.size W2 W3 := by rw [hW3]; exact (Below.refl W2.heap.size W2).alloc (Nat.le_refl _) _
  have hp3 : W3.heap[n + 2]? = some (.cells [Value.pointer none, .pointer (some ⟨n + 1, 0, none⟩)].toArray 23) := by rw [hW3, ← hs2]; exact blk_new W2 _
  have HX3 : Hid (W3.heap[n]? = some (.cells (opC kd cP cQ a b v).toArray 41)) := blk_on (blk_on hx1 hB2) hB3
  have HZ3 : Hid (W3.heap[n + 1]? = some (.cells [Value.bool false, .int .i64 0, .int .i64 0, .nilIface, .nilIface].toArray 76)) := blk_on hz2 hB3
  have HP3 : Hid (W3.heap[n + 2]? = some (.cells [Value.pointer none, .pointer (some ⟨n + 1, 0, none⟩)].toArray 23)) := hp3
  have HB3 : Hid (Below n w W3) := (hB1.trans (hB2.mono (by omega))).trans (hB3.mono (by omega))
  have HN : Hid (w.heap.size = n) := hn
  have HS1 : Hid (W1.heap.size = n + 1) := hs1
  have HS2 : Hid (W2.heap.size = n + 2) := hs2
  have HLP : Hid (∀ X : World, Below W3.heap.size W3 X → (Instr.loadAt 35 (.pointer (some ⟨n, 1, none⟩))).run Try.prog X = .ok (.agg cP.toArray) X) := fun X hX => op_P (blk_on HX3.out hX) hP
  have HLQ : Hid (∀ X : World, Below W3.heap.size W3 X → (Instr.loadAt 39 (.pointer (some ⟨n, 6, none⟩))).run Try.prog X = .ok (.agg cQ.toArray) X) := fun X hX => op_Q (blk_on HX3.out hX) hP hQ
  have HLA : Hid (∀ X : World, Below W3.heap.size W3 X → (Instr.loadAt 33 (.pointer (some ⟨n, 23, none⟩))).run Try.prog X = .ok (.agg (u8s a).toArray) X) := fun X hX => op_A (blk_on HX3.out hX) hP hQ ha
  have HLB : Hid (∀ X : World, Below W3.heap.size W3 X → (Instr.loadAt 37 (.pointer (some ⟨n, 27, none⟩))).run Try.prog X = .ok (.agg (u8s b).toArray) X) := fun X hX => op_B (blk_on HX3.out hX) hP hQ ha hb
  have HHP : Hid (cP.length = 5) := hP
  have HHQ : Hid (cQ.length = 17) := hQ
  have HHA : Hid (a.length = 4 ∧ FitB a) := ⟨ha, fa⟩
  have HHB : Hid (b.length = 16 ∧ FitB b) := ⟨hb, fb⟩
  have e1 := hW1.symm
  have e2 := hW2.symm
  have e3 := hW3.symm
  clear hB1 hx1 hW1 hB2 hz2 hW2 hB3 hp3 hW3 hP hQ ha hb fa fb
  generalize opC kd cP cQ a b v = CC at *
  go_enter Try.func7, Try.ntmps7
  go_wp2_with fail
  clear hn hs1 hs2 e1 e2 e3
  go_loopw [29] (fun i wr => ∃ k : Nat, k ≤ 2 ∧ i = .int .i64 k ∧ Hid (Below W3.heap.size W3 wr)) (fun i _ => 2 - (intOf i).toNat)
  case atStart => exact ⟨0, by omega, rfl, Below.refl _ _⟩
  case round =>
    obtain ⟨k, hk, rfl, hbr⟩ := hrel
    by_cases hlt : k < 2
    · obtain ⟨p, hcell, hnob⟩ : ∃ p, wr.cell? ⟨n + 2, k, none⟩ = some (.pointer p) ∧ Nob wr (.pointer p) := by
        have hp := blk_on HP3.out hbr.out
        have hz := blk_on HZ3.out hbr.out
        rcases (by omega : k = 0 ∨ k = 1) with rfl | rfl
        · exact ⟨none, blk_cell hp rfl, .inl rfl⟩
        · exact ⟨some ⟨n + 1, 0, none⟩, blk_cell hp rfl, .inr ⟨n + 1, rfl, hz⟩⟩
      have HNB : Hid (Nob wr (.pointer p)) := hnob
      have HB0 : Hid (Below W3.heap.size W3 wr) := hbr.out
      have hki : (k : Int) < 2 := by omega
      clear hnob hbr
      go_wp2_with ((with_reducible show wpList _ _ _ ({ dst := _, op := Op.load 35 (Operand.tmp 35), type := _, pos := _, after := _, guard := _ } :: _) _ _); refine armLv (.tmp 35) 35 rfl rfl rfl (HLP.out _ HB0.out) ?_)
      refine Calls.mono (Put4_nob _ _ HHP.out 1 _ HNB.out) ?_
      rintro e1 x1 ⟨rfl, hb1⟩
      have HN1 : Hid (Nob x1 (.pointer p)) := HNB.out.keep hb1
      have HB1 : Hid (Below W3.heap.size W3 x1) := HB0.out.trans (hb1.mono HB0.out.size)
      clear hb1 HNB HB0 hcell
      go_wp2_with ((with_reducible show wpList _ _ _ ({ dst := _, op := Op.load 39 (Operand.tmp 42), type := _, pos := _, after := _, guard := _ } :: _) _ _); refine armLv (.tmp 42) 39 rfl rfl rfl (HLQ.out _ HB1.out) ?_)
      refine Calls.mono (Put6_nob _ _ HHQ.out 1 _ HN1.out) ?_
      rintro e2 x2 ⟨rfl, hb2⟩
      have HN2 : Hid (Nob x2 (.pointer p)) := HN1.out.keep hb2
      have HB2 : Hid (Below W3.heap.size W3 x2) := HB1.out.trans (hb2.mono HB1.out.size)
      clear hb2 HN1 HB1
      go_wp2_with ((with_reducible show wpList _ _ _ ({ dst := _, op := Op.load 35 (Operand.tmp 49), type := _, pos := _, after := _, guard := _ } :: _) _ _); refine armLv (.tmp 49) 35 rfl rfl rfl (HLP.out _ HB2.out) ?_)
      refine Calls.mono (Get4_nob _ _ HHP.out _ HN2.out) ?_
      rintro e3 x3 ⟨rfl, hb3⟩
      have HN3 : Hid (Nob x3 (.pointer p)) := HN2.out.keep hb3
      have HB3 : Hid (Below W3.heap.size W3 x3) := HB2.out.trans (hb3.mono HB2.out.size)
      clear hb3 HN2 HB2
      go_wp2_with ((with_reducible show wpList _ _ _ ({ dst := _, op := Op.load 39 (Operand.tmp 57), type := _, pos := _, after := _, guard := _ } :: _) _ _); refine armLv (.tmp 57) 39 rfl rfl rfl (HLQ.out _ HB3.out) ?_)
      refine Calls.mono (Get6_nob _ _ HHQ.out _ HN3.out) ?_
      rintro e4 x4 ⟨rfl, hb4⟩
      have HN4 : Hid (Nob x4 (.pointer p)) := HN3.out.keep hb4
      have HB4 : Hid (Below W3.heap.size W3 x4) := HB3.out.trans (hb4.mono HB3.out.size)
      clear hb4 HN3 HB3
      go_wp2_with ((with_reducible show wpList _ _ _ ({ dst := _, op := Op.load 35 (Operand.tmp 65), type := _, pos := _, after := _, guard := _ } :: _) _ _); refine armLv (.tmp 65) 35 rfl rfl rfl (HLP.out _ HB4.out) ?_)
      refine Calls.mono (Under4_nob _ _ HHP.out _ HN4.out) ?_
      rintro e5 x5 ⟨rfl, hb5⟩
      have HN5 : Hid (Nob x5 (.pointer p)) := HN4.out.keep hb5
      have HB5 : Hid (Below W3.heap.size W3 x5) := HB4.out.trans (hb5.mono HB4.out.size)
      clear hb5 HN4 HB4
      go_wp2_with ((with_reducible show wpList _ _ _ ({ dst := _, op := Op.load 35 (Operand.tmp 72), type := _, pos := _, after := _, guard := _ } :: _) _ _); refine armLv (.tmp 72) 35 rfl rfl rfl (HLP.out _ HB5.out) ?_)
      refine Calls.mono (Over4_nob _ _ HHP.out _ HN5.out) ?_
      rintro e6 x6 ⟨rfl, hb6⟩
      have HN6 : Hid (Nob x6 (.pointer p)) := HN5.out.keep hb6
      have HB6 : Hid (Below W3.heap.size W3 x6) := HB5.out.trans (hb6.mono HB5.out.size)
      clear hb6 HN5 HB5
      go_wp2_with ((with_reducible show wpList _ _ _ ({ dst := _, op := Op.load 33 (Operand.tmp 79), type := _, pos := _, after := _, guard := _ } :: _) _ _); refine armLv (.tmp 79) 33 rfl rfl rfl (HLA.out _ HB6.out) ?_)
      refine Calls.mono (Best4_nob _ a HHA.out.1 HHA.out.2 _ HN6.out) ?_
      rintro e7 y7 ⟨⟨c7, rfl, hc7, ho7⟩, hb7⟩
      obtain ⟨z7, hz7⟩ : ∃ z, z = y7.alloc (.cells ([.int .u8 0, .int .u8 0, .int .u8 0, .int .u8 0, .int .i64 0, .int .i64 0] : List Value).toArray 47) := ⟨_, rfl⟩
      have hq7 : Below y7.heap.size y7 z7 := by rw [hz7]; exact (Below.refl y7.heap.size y7).alloc (Nat.le_refl _) _
      have hv7 : z7.heap[y7.heap.size]? = some (.cells ([.int .u8 0, .int .u8 0, .int .u8 0, .int .u8 0, .int .i64 0, .int .i64 0] : List Value).toArray 47) := by rw [hz7]; exact blk_new y7 _
      obtain ⟨x7, hst7, -, hox7⟩ := box_store (ty := 47) (n := 6) (fun w => by kernel_rfl) hv7 (by rfl) c7 hc7 ho7
      have hbx7 : Below y7.heap.size y7 x7 := hq7.trans (hox7.below (Nat.le_refl _))
      have HST7 : Hid _ := hst7
      have HN7 : Hid (Nob x7 (.pointer p)) := (HN6.out.keep hb7).keep hbx7
      have HB7 : Hid (Below W3.heap.size W3 x7) := (HB6.out.trans (hb7.mono HB6.out.size)).trans (hbx7.mono (Nat.le_trans HB6.out.size hb7.size))
      have hw' := hz7.symm
      clear hb7 hq7 hv7 hst7 hox7 hbx7 hz7 hc7 ho7 HN6 HB6
      go_wp2_with first
        | ((with_reducible show wpList _ _ _ ({ dst := _, op := Op.load 37 (Operand.tmp 86), type := _, pos := _, after := _, guard := _ } :: _) _ _); refine armLv (.tmp 86) 37 rfl rfl rfl (HLB.out _ HB7.out) ?_)
        | ((with_reducible show wpList _ _ _ ({ dst := _, op := Op.store 47 (Operand.tmp 20) _, type := _, pos := _, after := _, guard := _ } :: _) _ _); refine armS (.tmp 20) (.tmp 82) 47 rfl rfl rfl rfl HST7.out ?_; try simp only [Act.put])
      clear HST7 hw'
      refine Calls.mono (Best6_nob _ b HHB.out.1 HHB.out.2 _ HN7.out) ?_
      rintro e8 y8 ⟨⟨c8, rfl, hc8, ho8⟩, hb8⟩
      obtain ⟨z8, hz8⟩ : ∃ z, z = y8.alloc (.cells (zL : List Value).toArray 51) := ⟨_, rfl⟩
      have hq8 : Below y8.heap.size y8 z8 := by rw [hz8]; exact (Below.refl y8.heap.size y8).alloc (Nat.le_refl _) _
      have hv8 : z8.heap[y8.heap.size]? = some (.cells (zL : List Value).toArray 51) := by rw [hz8]; exact blk_new y8 _
      obtain ⟨x8, hst8, -, hox8⟩ := box_store (ty := 51) (n := 18) (fun w => by kernel_rfl) hv8 (by rfl) c8 hc8 ho8
      have hbx8 : Below y8.heap.size y8 x8 := hq8.trans (hox8.below (Nat.le_refl _))
      have HST8 : Hid _ := hst8
      have HN8 : Hid (Nob x8 (.pointer p)) := (HN7.out.keep hb8).keep hbx8
      have HB8 : Hid (Below W3.heap.size W3 x8) := (HB7.out.trans (hb8.mono HB7.out.size)).trans (hbx8.mono (Nat.le_trans HB7.out.size hb8.size))
      have hw' := hz8.symm
      clear hb8 hq8 hv8 hst8 hox8 hbx8 hz8 hc8 ho8 HN7 HB7
      go_wp2_with first
        | ((with_reducible show wpList _ _ _ ({ dst := _, op := Op.store 51 (Operand.tmp 22) _, type := _, pos := _, after := _, guard := _ } :: _) _ _); refine armS (.tmp 22) (.tmp 89) 51 rfl rfl rfl rfl HST8.out ?_; try simp only [Act.put])
        | ((with_reducible show wpList _ _ _ ({ dst := _, op := Op.load 35 (Operand.tmp 115), type := _, pos := _, after := _, guard := _ } :: _) _ _); refine armLv (.tmp 115) 35 rfl rfl rfl (HLP.out _ HB8.out) ?_)
      clear HST8 hw'
      refine Calls.mono (Del4_nob _ _ HHP.out _ HN8.out) ?_
      rintro e9 x9 ⟨rfl, hb9⟩
      have HN9 : Hid (Nob x9 (.pointer p)) := HN8.out.keep hb9
      have HB9 : Hid (Below W3.heap.size W3 x9) := HB8.out.trans (hb9.mono HB8.out.size)
      clear hb9 HN8 HB8
      go_wp2_with ((with_reducible show wpList _ _ _ ({ dst := _, op := Op.load 39 (Operand.tmp 122), type := _, pos := _, after := _, guard := _ } :: _) _ _); refine armLv (.tmp 122) 39 rfl rfl rfl (HLQ.out _ HB9.out) ?_)
      refine Calls.mono (Del6_nob _ _ HHQ.out _ HN9.out) ?_
      rintro e10 x10 ⟨rfl, hb10⟩
      have HN10 : Hid (Nob x10 (.pointer p)) := HN9.out.keep hb10
      have HB10 : Hid (Below W3.heap.size W3 x10) := HB9.out.trans (hb10.mono HB9.out.size)
      clear hb10 HN9 HB9
      go_wp2_with fail
      refine Calls.mono (Len_nob _ _ HN10.out) ?_
      rintro e11 x11 ⟨rfl, hx11⟩
      obtain rfl := hx11.symm
      clear hx11
      go_wp2_with fail
      refine Calls.mono (All4_nob _ _ HN10.out) ?_
      rintro e12 x12 ⟨rfl, hb12⟩
      have HN12 : Hid (Nob x12 (.pointer p)) := HN10.out.keep hb12
      have HB12 : Hid (Below W3.heap.size W3 x12) := HB10.out.trans (hb12.mono HB10.out.size)
      clear hb12 HN10 HB10
      go_wp2_with fail
      refine Calls.mono (All6_nob _ _ HN12.out) ?_
      rintro e13 x13 ⟨rfl, hb13⟩
      have HN13 : Hid (Nob x13 (.pointer p)) := HN12.out.keep hb13
      have HB13 : Hid (Below W3.heap.size W3 x13) := HB12.out.trans (hb13.mono HB12.out.size)
      clear hb13 HN12 HB12
      go_wp2
      exact ⟨⟨k + 1, by omega, by simp, HB13.out⟩, by simp [intOf]; omega⟩
    · obtain rfl : k = 2 := by omega
      have HBW : Hid (Below n w wr) := HB3.out.trans (hbr.out.mono (by have h1 := HB3.out.size; have h2 := HN.out; omega))
      clear hbr
      go_wp2_with fail
      refine (awake_any _).mono ?_
      rintro e9 x9 ⟨rfl, hb9⟩
      have HF : Hid (Below w.heap.size w x9) := by rw [HN.out]; exact HBW.out.trans (hb9.mono (by have h1 := HBW.out.size; have h2 := HN.out; omega))
      clear hb9 HBW
      go_wp2
      try go_ret
      exact ⟨rfl, HF.out⟩
end
end Go.Proofs.Ytenahbdopgmpfaa

namespace Go.Proofs.Ytenahbdopgmpfaa
open Go Go.RowKit
set_option linter.unusedVariables false
set_option linter.unusedSimpArgs false
open Go.ChangeShapes Go.WideShapes Go.ChangeAt

theorem list6 {α : Type} {l : List α} (h : l.length = 6) : ∃ x0 x1 x2 x3 x4 x5, l = [x0, x1, x2, x3, x4, x5] := by
  match l, h with
  | [x0, x1, x2, x3, x4, x5], _ => exact ⟨x0, x1, x2, x3, x4, x5, rfl⟩
theorem split44 {l : List Value} (h : l.length = 44) : l = (l.drop 0).take 1 ++ ((l.drop 1).take 5 ++ ((l.drop 6).take 17 ++ ((l.drop 23).take 4 ++ ((l.drop 27).take 16 ++ ((l.drop 43).take 1))))) := by
  rw [show (l.drop 43).take 1 = l.drop 43 from List.take_of_length_le (by simp; omega)]
  rw [show (l.drop 27).take 16 ++ l.drop 43 = l.drop 27 by have := List.take_append_drop 16 (l.drop 27); rwa [List.drop_drop] at this]
  rw [show (l.drop 23).take 4 ++ l.drop 27 = l.drop 23 by have := List.take_append_drop 4 (l.drop 23); rwa [List.drop_drop] at this]
  rw [show (l.drop 6).take 17 ++ l.drop 23 = l.drop 6 by have := List.take_append_drop 17 (l.drop 6); rwa [List.drop_drop] at this]
  rw [show (l.drop 1).take 5 ++ l.drop 6 = l.drop 1 by have := List.take_append_drop 5 (l.drop 1); rwa [List.drop_drop] at this]
  rw [show (l.drop 0).take 1 ++ l.drop 1 = l.drop 0 by have := List.take_append_drop 1 (l.drop 0); rwa [List.drop_drop] at this]
  rw [List.drop_zero]
set_option maxRecDepth 100000 in
set_option maxHeartbeats 1000000 in
theorem open_op {H : Type} {enc : TypeId × Value → H} {W : World} {v : Value} {d : DataW H} {p : List MemPlace} (h : DataW.Trod enc Try.prog W 0 (fun _ => true) true 41 v d p) :
    ∃ kd cP cQ a b z, v = .agg (opC kd cP cQ a b z).toArray ∧ cP.length = 5 ∧ cQ.length = 17 ∧ a.length = 4 ∧ b.length = 16 ∧ FitB a ∧ FitB b := by
  obtain ⟨fuel, hf⟩ := h
  obtain ⟨xs, m, _, hx, hl, hxl, hi⟩ := DataW.trod_struct Try.underlying41 hf
  have c44 : Try.prog.cellsOf 41 = 44 := by kernel_rfl
  rw [c44] at hl
  obtain ⟨x0, x1, x2, x3, x4, x5, rfl⟩ := list6 hxl
  have g0 : DataW.trod enc Try.prog W 0 (fun _ => true) true m 3 ((v.cells.toList.drop 0).take 1) = some x0 := by
    have e : DataW.trod enc Try.prog W 0 (fun _ => true) true m 3 ((v.cells.toList.drop 0).take (Try.prog.cellsOf 3)) = some x0 := hi 0 _ rfl
    rwa [show Try.prog.cellsOf 3 = 1 by kernel_rfl] at e
  have g3 : DataW.trod enc Try.prog W 0 (fun _ => true) true m 33 ((v.cells.toList.drop 23).take 4) = some x3 := by
    have e : DataW.trod enc Try.prog W 0 (fun _ => true) true m 33 ((v.cells.toList.drop 23).take (Try.prog.cellsOf 33)) = some x3 := hi 3 _ rfl
    rwa [show Try.prog.cellsOf 33 = 4 by kernel_rfl] at e
  have g4 : DataW.trod enc Try.prog W 0 (fun _ => true) true m 37 ((v.cells.toList.drop 27).take 16) = some x4 := by
    have e : DataW.trod enc Try.prog W 0 (fun _ => true) true m 37 ((v.cells.toList.drop 27).take (Try.prog.cellsOf 37)) = some x4 := hi 4 _ rfl
    rwa [show Try.prog.cellsOf 37 = 16 by kernel_rfl] at e
  have g5 : DataW.trod enc Try.prog W 0 (fun _ => true) true m 3 ((v.cells.toList.drop 43).take 1) = some x5 := by
    have e : DataW.trod enc Try.prog W 0 (fun _ => true) true m 3 ((v.cells.toList.drop 43).take (Try.prog.cellsOf 3)) = some x5 := hi 5 _ rfl
    rwa [show Try.prog.cellsOf 3 = 1 by kernel_rfl] at e
  obtain ⟨kd, e0, _, f0⟩ := DataW.trod_int Try.underlying3 g0
  obtain ⟨A, lA, e3, fA⟩ := cells_arr Try.underlying33 (by kernel_rfl) (by kernel_rfl) g3
  obtain ⟨B, lB, e4, fB⟩ := cells_arr Try.underlying37 (by kernel_rfl) (by kernel_rfl) g4
  obtain ⟨z, e5, _, f5⟩ := DataW.trod_int Try.underlying3 g5
  have hall := split44 hl
  rw [e0, e3, e4, e5] at hall
  have hv := agg_of hall (by simp only [List.length_append, List.length_cons]; omega)
  exact ⟨kd, _, _, A, B, z, hv, by rw [List.length_take, List.length_drop, hl]; rfl, by rw [List.length_take, List.length_drop, hl]; rfl, lA, lB, fA, fB⟩
set_option maxRecDepth 100000 in
theorem trieNobody_open {H : Type} {enc : TypeId × Value → H} {W : World} {base : Nat} (v0 : Value) {d0 : DataW H} {p0 : List MemPlace}
    (o0 : Value.okWide Try.prog W .any base 41 v0) (h0 : DataW.Trod enc Try.prog W 0 (fun _ => true) true 41 v0 d0 p0) (z0 : ∀ k ∈ d0.weights Try.prog 41, k ≤ reachBytes) :
    Calls Try.prog 7 #[v0] W fun e w' => e = .returned (.bool true) ∧ Below W.heap.size W w' := by
  obtain ⟨kd, cP, cQ, a, b, z, rfl, hP, hQ, ha, hb, fa, fb⟩ := open_op h0
  exact trieNobody_walk hP hQ ha hb fa fb

end Go.Proofs.Ytenahbdopgmpfaa
