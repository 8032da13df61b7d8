/-
  Bytes in order, as strings.
  The document's order of prefixes.
-/
import Derived.Test.YtenahbdopgmpfaaFold30
import Derived.Laws.BytesArg
namespace Go.Proofs.Ytenahbdopgmpfaa
open Go Go.RowKit Go.Shelf
set_option linter.unusedVariables false
set_option linter.unusedSimpArgs false

theorem u8_lt {x y : Int} (hx : 0 ≤ x ∧ x < 256) (hy : 0 ≤ y ∧ y < 256) : (UInt8.ofNat x.toNat < UInt8.ofNat y.toNat) ↔ x < y := by
  rw [UInt8.lt_iff_toNat_lt, UInt8.toNat_ofNat', UInt8.toNat_ofNat', Nat.mod_eq_of_lt (by omega), Nat.mod_eq_of_lt (by omega)]
  omega
theorem u8_eq {x y : Int} (hx : 0 ≤ x ∧ x < 256) (hy : 0 ≤ y ∧ y < 256) : (UInt8.ofNat x.toNat = UInt8.ofNat y.toNat) ↔ x = y := by
  rw [← UInt8.toNat_inj, UInt8.toNat_ofNat', UInt8.toNat_ofNat', Nat.mod_eq_of_lt (by omega), Nat.mod_eq_of_lt (by omega)]
  omega
theorem less_ltI : ∀ (A B : List Int), FitB A → FitB B → Op.bytesLess (A.map (fun z => UInt8.ofNat z.toNat)) (B.map (fun z => UInt8.ofNat z.toNat)) = ltI A B
  | [], [], _, _ => rfl
  | [], _ :: _, _, _ => rfl
  | _ :: _, [], _, _ => rfl
  | x :: xs, y :: ys, hA, hB => by
    have hx := hA x (by simp)
    have hy := hB y (by simp)
    have ih := less_ltI xs ys (fun z hz => hA z (by simp [hz])) (fun z hz => hB z (by simp [hz]))
    have h1 := u8_lt hx hy
    have h2 := u8_lt hy hx
    have h3 := u8_eq hx hy
    simp only [List.map_cons, Op.bytesLess, ltI, ih]
    by_cases c : x = y
    · subst c
      simp
    · have h4 : ¬ UInt8.ofNat x.toNat = UInt8.ofNat y.toNat := fun e => c (h3.1 e)
      by_cases d : x < y
      · have h5 := h1.2 d
        simp [c, d, h4, h5]
      · have h5 : ¬ UInt8.ofNat x.toNat < UInt8.ofNat y.toNat := fun e => d (h1.1 e)
        simp [c, d, h4, h5]
end Go.Proofs.Ytenahbdopgmpfaa

namespace Go.Proofs.Ytenahbdopgmpfaa
open Go Go.RowKit Go.Shelf
set_option linter.unusedVariables false
set_option linter.unusedSimpArgs false

theorem less_nums {A B : List Int} (hA : FitB A) (hB : FitB B) : Op.bytesLess (strOfNums A).toList (strOfNums B).toList = ltI A B := by
  rw [← less_ltI A B hA hB]
  unfold strOfNums
  simp
theorem cp6_at (l : List Int) (n : Int) : (cp6 l n)[l.length]? = some (Value.int .i64 n) := by
  unfold cp6
  rw [List.getElem?_append_right (by rw [u8s_length]; exact Nat.le_refl _), u8s_length]
  simp
theorem cp6_byte (l : List Int) (n : Int) (i : Nat) (hi : i < l.length) : (cp6 l n)[i]? = some (Value.int .u8 (l.getD i 0)) := by
  unfold cp6
  rw [List.getElem?_append_left (by rw [u8s_length]; exact hi)]
  simp [u8s, hi]
theorem ex_lssS {o : Oper} {a : Act} {W : World} (p q : Operand) {t u : TypeId} (hop : o.op = Op.binOp .lss t p q u) {x y : ByteArray} (hp : a.eval p = .string x) (hq : a.eval q = .string y) {b : Bool} (hb : Op.bytesLess x.toList y.toList = b) : (execOp a.eval o).run Try.prog W = .ok (.value (.bool b)) W := by
  generalize a.eval = ev at *
  simp [execOp, hop, hp, hq, go_sem, hb]
theorem ex_convS {o : Oper} {a : Act} {W : World} (p : Operand) {s d : TypeId} (hop : o.op = Op.convert s d p) {vp v : Value} (hp : a.eval p = vp) (hrun : (convert s d vp).run Try.prog W = .ok v W) : (execOp a.eval o).run Try.prog W = .ok (.value v) W := by
  generalize a.eval = ev at *
  simp [execOp, hop, hp, hrun]
theorem neqA4T (zs ys : List Int) (h : FitB zs) (g : FitB ys) (hl : zs.length = 4) (gl : ys.length = 4) (w : World) :
    (binOp .neq 33 (.agg (u8s zs).toArray) (.agg (u8s ys).toArray)).run Try.prog w = .ok (.bool (!decide (zs = ys))) w := by
  have : (Op.equalIn (9998 + 2) 33 (.agg (u8s zs).toArray) (.agg (u8s ys).toArray)).run Try.prog w = .ok (decide (zs = ys)) w := eq_arr4 9998 zs ys h g hl gl w
  simp only [binOp, Op.equal, Op.maxDepth]
  simp [this]
theorem gdA4T (b : BinOp) (x y : Operand) (u v : Array Value) (w : World) : (eqGuard b 33 x y (.agg u) (.agg v)).run Try.prog w = .ok () w := by
  have he : Try.prog.eqGuardType Try.prog.depth 33 = false := by kernel_rfl
  cases b <;> simp [eqGuard, go_sem, he]
theorem ex_slcA4 {o : Oper} {a : Act} {W : World} (k : Nat) {b n : Nat} (hop : o.op = Op.slice 33 (.tmp k) none none none) (hk : a.eval (.tmp k) = .pointer (some ⟨b, n, none⟩)) :
    (execOp a.eval o).run Try.prog W = .ok (.value (.slice (some ⟨b, n, none⟩) 4 4)) W := by
  generalize a.eval = ev at *
  simp [execOp, hop, hk, go_sem]
theorem ld_adT4 {W : World} {b : Nat} {l : List Int} {n : Int} {t : TypeId} (hl : l.length = 4) (h : W.heap[b]? = some (.cells (cp6 l n).toArray t)) : (Instr.loadAt 33 (.pointer (some ⟨b, 0, none⟩))).run Try.prog W = .ok (.agg (u8s l).toArray) W :=
  agg_load (n := 4) (fun w => by kernel_rfl) (fun w => by kernel_rfl) (by rw [u8s_length, hl]) (CellsAt.fst (ys := [Value.int .i64 n]) (CellsAt.of_blk h))
theorem cv_T4 {W : World} {b : Nat} {l : List Int} {n : Int} {t : TypeId} (hl : l.length = 4) (h : W.heap[b]? = some (.cells (cp6 l n).toArray t)) : (convert 106 9 (.slice (some ⟨b, 0, none⟩) 4 4)).run Try.prog W = .ok (.string (strOfNums l)) W :=
  run_convert_bytes_arg W _ _ Try.underlying106 Try.underlying5 b 0 4 4 l hl (fun i hi => by rw [Nat.zero_add]; exact blk_cell h (cp6_byte l n i (by omega))) _ Try.underlying9
set_option maxHeartbeats 2000000 in
set_option maxRecDepth 100000 in
theorem ahead4_calls (l q : List Int) (n m : Int) (hl : l.length = 4) (hq : q.length = 4) (hf : FitB l) (hg : FitB q) (w : World) :
    Calls Try.prog 59 #[.agg (cp6 l n).toArray, .agg (cp6 q m).toArray] w fun e w' => e = .returned (.bool (if l = q then decide (n < m) else ltI l q)) ∧ Below w.heap.size w w' := by
  obtain ⟨W1, hW1⟩ : ∃ W1, W1 = (w.alloc (.cells (cp6 l n).toArray 35)).alloc (.cells (cp6 q m).toArray 35) := ⟨_, rfl⟩
  have hB1 : Below w.heap.size w W1 := by rw [hW1]; exact ((Below.refl w.heap.size w).alloc (Nat.le_refl _) _).alloc (by simp) _
  have b0 : W1.heap[w.heap.size]? = some (.cells (cp6 l n).toArray 35) := by rw [hW1]; exact blk_alloc (blk_new w _) _
  have b1 : W1.heap[w.heap.size + 1]? = some (.cells (cp6 q m).toArray 35) := by
    have := blk_new (w.alloc (.cells (cp6 l n).toArray 35)) (.cells (cp6 q m).toArray 35)
    rw [show (w.alloc (.cells (cp6 l n).toArray 35)).heap.size = w.heap.size + 1 by simp] at this
    rw [hW1]; exact this
  have HL0 : Hid _ := ld_adT4 hl b0
  have HL1 : Hid _ := ld_adT4 hq b1
  have c0 : W1.cell? ⟨w.heap.size, 4, none⟩ = some (.int .i64 n) := blk_cell b0 (by have := cp6_at l n; rw [hl] at this; simpa using this)
  have c1 : W1.cell? ⟨w.heap.size + 1, 4, none⟩ = some (.int .i64 m) := blk_cell b1 (by have := cp6_at q m; rw [hq] at this; simpa using this)
  have HNE : Hid _ := fun W => neqA4T l q hf hg hl hq W
  have HGD : Hid _ := fun (W : World) (x y : Operand) => gdA4T .neq x y (u8s l).toArray (u8s q).toArray W
  have HLS : Hid _ := less_nums hf hg
  have HB0 : Hid (W1.heap[w.heap.size]? = some (.cells (cp6 l n).toArray 35)) := b0
  have HB1 : Hid (W1.heap[w.heap.size + 1]? = some (.cells (cp6 q m).toArray 35)) := b1
  have HKB : Hid (Below w.heap.size w W1) := hB1
  have hW := hW1.symm
  clear hB1 b0 b1 hW1 hf hg
  by_cases c : l = q
  · have hd := decide_eq_true c
    rw [hd] at HNE
    rw [if_pos c]
    clear hd c HB0 HB1 HLS
    go_enter Try.func59, Try.ntmps59
    go_wp2_with first
      | ((with_reducible show wpList _ _ _ _ _ _); refine armLv (.tmp 5) 33 rfl rfl rfl HL0.out ?_)
      | ((with_reducible show wpList _ _ _ _ _ _); refine armLv (.tmp 7) 33 rfl rfl rfl HL1.out ?_)
      | ((with_reducible show wpList _ _ _ _ _ _); refine arm_bin rfl .neq 33 33 (.tmp 6) (.tmp 8) rfl rfl rfl (HGD.out _ _ _) (HNE.out _) ?_)
    try go_ret
    exact ⟨rfl, HKB.out⟩
  · have hd := decide_eq_false c
    rw [hd] at HNE
    rw [if_neg c]
    clear hd c c0 c1
    go_enter Try.func59, Try.ntmps59
    go_wp2_with first
      | ((with_reducible show wpList _ _ _ _ _ _); refine armLv (.tmp 5) 33 rfl rfl rfl HL0.out ?_)
      | ((with_reducible show wpList _ _ _ _ _ _); refine armLv (.tmp 7) 33 rfl rfl rfl HL1.out ?_)
      | ((with_reducible show wpList _ _ _ _ _ _); refine arm_bin rfl .neq 33 33 (.tmp 6) (.tmp 8) rfl rfl rfl (HGD.out _ _ _) (HNE.out _) ?_)
    refine region_midT (fun a0 a' w' => a' = ((((((((a0.put (some 10) (.pointer (some ⟨w.heap.size, 0, none⟩))).put (some 11) (.slice (some ⟨w.heap.size, 0, none⟩) 4 4)).put (some 12) (.string (strOfNums l))).put (some 13) (.pointer (some ⟨w.heap.size + 1, 0, none⟩))).put (some 14) (.slice (some ⟨w.heap.size + 1, 0, none⟩) 4 4)).put (some 15) (.string (strOfNums q))).put (some 16) (.bool (ltI l q))).put (some 4) (.bool (ltI l q))) ∧ Below W1.heap.size W1 w') ?_ ?_
    · skip
      refine wp_region_held (S := fun X => X.heap[w.heap.size]? = some (.cells (cp6 l n).toArray 35) ∧ X.heap[w.heap.size + 1]? = some (.cells (cp6 q m).toArray 35)) (by kernel_rfl) ?_
      show wpAnyH _ _ _ _ _ 8 (Array.replicate 8 false) _ _
      refine take_one (i := 0) (d := some 10) (v := .pointer (some ⟨w.heap.size, 0, none⟩)) rfl rfl rfl (by kernel_rfl) (by kernel_rfl) (by kernel_rfl) (fun _ _ d _ _ h => by cases d <;> exact h) (fun X hS => by kernel_rfl) (show _ ∧ _ from ⟨HB0.out, HB1.out⟩) ?_
      simp only [Act.put, List.setIfInBounds_toArray, List.set_cons_zero, List.set_cons_succ]
      refine take_one (i := 1) (d := some 11) (v := .slice (some ⟨w.heap.size, 0, none⟩) 4 4) rfl rfl rfl (by kernel_rfl) (by kernel_rfl) (by kernel_rfl) (fun _ _ d _ _ h => by cases d <;> exact h) (fun X hS => ex_slcA4 10 rfl rfl) (show _ ∧ _ from ⟨HB0.out, HB1.out⟩) ?_
      simp only [Act.put, List.setIfInBounds_toArray, List.set_cons_zero, List.set_cons_succ]
      refine take_one (i := 2) (d := some 12) (v := .string (strOfNums l)) rfl rfl rfl (by kernel_rfl) (by kernel_rfl) (by kernel_rfl) (fun _ _ d _ _ h => by cases d <;> exact h) (fun X hS => ex_convS (.tmp 11) rfl rfl (cv_T4 hl hS.1)) (show _ ∧ _ from ⟨HB0.out, HB1.out⟩) ?_
      simp only [Act.put, List.setIfInBounds_toArray, List.set_cons_zero, List.set_cons_succ]
      refine take_one (i := 3) (d := some 13) (v := .pointer (some ⟨w.heap.size + 1, 0, none⟩)) rfl rfl rfl (by kernel_rfl) (by kernel_rfl) (by kernel_rfl) (fun _ _ d _ _ h => by cases d <;> exact h) (fun X hS => by kernel_rfl) (show _ ∧ _ from ⟨HB0.out, HB1.out⟩) ?_
      simp only [Act.put, List.setIfInBounds_toArray, List.set_cons_zero, List.set_cons_succ]
      refine take_one (i := 4) (d := some 14) (v := .slice (some ⟨w.heap.size + 1, 0, none⟩) 4 4) rfl rfl rfl (by kernel_rfl) (by kernel_rfl) (by kernel_rfl) (fun _ _ d _ _ h => by cases d <;> exact h) (fun X hS => ex_slcA4 13 rfl rfl) (show _ ∧ _ from ⟨HB0.out, HB1.out⟩) ?_
      simp only [Act.put, List.setIfInBounds_toArray, List.set_cons_zero, List.set_cons_succ]
      refine take_one (i := 5) (d := some 15) (v := .string (strOfNums q)) rfl rfl rfl (by kernel_rfl) (by kernel_rfl) (by kernel_rfl) (fun _ _ d _ _ h => by cases d <;> exact h) (fun X hS => ex_convS (.tmp 14) rfl rfl (cv_T4 hq hS.2)) (show _ ∧ _ from ⟨HB0.out, HB1.out⟩) ?_
      simp only [Act.put, List.setIfInBounds_toArray, List.set_cons_zero, List.set_cons_succ]
      refine take_one (i := 6) (d := some 16) (v := .bool (ltI l q)) rfl rfl rfl (by kernel_rfl) (by kernel_rfl) (by kernel_rfl) (fun _ _ d _ _ h => by cases d <;> exact h) (fun X hS => ex_lssS (.tmp 12) (.tmp 15) rfl rfl rfl HLS.out) (show _ ∧ _ from ⟨HB0.out, HB1.out⟩) ?_
      simp only [Act.put, List.setIfInBounds_toArray, List.set_cons_zero, List.set_cons_succ]
      refine take_one (i := 7) (d := some 4) (v := .bool (ltI l q)) rfl rfl rfl (by kernel_rfl) (by kernel_rfl) (by kernel_rfl) (fun _ _ d _ _ h => by cases d <;> exact h) (fun X hS => by kernel_rfl) (show _ ∧ _ from ⟨HB0.out, HB1.out⟩) ?_
      simp only [Act.put, List.setIfInBounds_toArray, List.set_cons_zero, List.set_cons_succ]
      refine wpAnyH_done (by kernel_rfl) ?_ _
      exact ⟨rfl, by first | exact (Below.refl _ W1).drew | exact (Below.refl _ W1).drew.drew⟩
    · rintro a' w4 ⟨rfl, hb4⟩
      simp only [Act.put, List.setIfInBounds_toArray, List.set_cons_zero, List.set_cons_succ]
      have HF : Hid (Below w.heap.size w w4) := HKB.out.trans (hb4.mono HKB.out.size)
      clear hb4 HKB HB0 HB1 HL0 HL1 hW
      go_wp2
      try go_ret
      exact ⟨rfl, HF.out⟩
theorem neqA6T (zs ys : List Int) (h : FitB zs) (g : FitB ys) (hl : zs.length = 16) (gl : ys.length = 16) (w : World) :
    (binOp .neq 37 (.agg (u8s zs).toArray) (.agg (u8s ys).toArray)).run Try.prog w = .ok (.bool (!decide (zs = ys))) w := by
  have : (Op.equalIn (9998 + 2) 37 (.agg (u8s zs).toArray) (.agg (u8s ys).toArray)).run Try.prog w = .ok (decide (zs = ys)) w := eq_arr16 9998 zs ys h g hl gl w
  simp only [binOp, Op.equal, Op.maxDepth]
  simp [this]
theorem gdA6T (b : BinOp) (x y : Operand) (u v : Array Value) (w : World) : (eqGuard b 37 x y (.agg u) (.agg v)).run Try.prog w = .ok () w := by
  have he : Try.prog.eqGuardType Try.prog.depth 37 = false := by kernel_rfl
  cases b <;> simp [eqGuard, go_sem, he]
theorem ex_slcA6 {o : Oper} {a : Act} {W : World} (k : Nat) {b n : Nat} (hop : o.op = Op.slice 37 (.tmp k) none none none) (hk : a.eval (.tmp k) = .pointer (some ⟨b, n, none⟩)) :
    (execOp a.eval o).run Try.prog W = .ok (.value (.slice (some ⟨b, n, none⟩) 16 16)) W := by
  generalize a.eval = ev at *
  simp [execOp, hop, hk, go_sem]
theorem ld_adT6 {W : World} {b : Nat} {l : List Int} {n : Int} {t : TypeId} (hl : l.length = 16) (h : W.heap[b]? = some (.cells (cp6 l n).toArray t)) : (Instr.loadAt 37 (.pointer (some ⟨b, 0, none⟩))).run Try.prog W = .ok (.agg (u8s l).toArray) W :=
  agg_load (n := 16) (fun w => by kernel_rfl) (fun w => by kernel_rfl) (by rw [u8s_length, hl]) (CellsAt.fst (ys := [Value.int .i64 n]) (CellsAt.of_blk h))
theorem cv_T6 {W : World} {b : Nat} {l : List Int} {n : Int} {t : TypeId} (hl : l.length = 16) (h : W.heap[b]? = some (.cells (cp6 l n).toArray t)) : (convert 106 9 (.slice (some ⟨b, 0, none⟩) 16 16)).run Try.prog W = .ok (.string (strOfNums l)) W :=
  run_convert_bytes_arg W _ _ Try.underlying106 Try.underlying5 b 0 16 16 l hl (fun i hi => by rw [Nat.zero_add]; exact blk_cell h (cp6_byte l n i (by omega))) _ Try.underlying9
set_option maxHeartbeats 2000000 in
set_option maxRecDepth 100000 in
theorem ahead6_calls (l q : List Int) (n m : Int) (hl : l.length = 16) (hq : q.length = 16) (hf : FitB l) (hg : FitB q) (w : World) :
    Calls Try.prog 60 #[.agg (cp6 l n).toArray, .agg (cp6 q m).toArray] w fun e w' => e = .returned (.bool (if l = q then decide (n < m) else ltI l q)) ∧ Below w.heap.size w w' := by
  obtain ⟨W1, hW1⟩ : ∃ W1, W1 = (w.alloc (.cells (cp6 l n).toArray 39)).alloc (.cells (cp6 q m).toArray 39) := ⟨_, rfl⟩
  have hB1 : Below w.heap.size w W1 := by rw [hW1]; exact ((Below.refl w.heap.size w).alloc (Nat.le_refl _) _).alloc (by simp) _
  have b0 : W1.heap[w.heap.size]? = some (.cells (cp6 l n).toArray 39) := by rw [hW1]; exact blk_alloc (blk_new w _) _
  have b1 : W1.heap[w.heap.size + 1]? = some (.cells (cp6 q m).toArray 39) := by
    have := blk_new (w.alloc (.cells (cp6 l n).toArray 39)) (.cells (cp6 q m).toArray 39)
    rw [show (w.alloc (.cells (cp6 l n).toArray 39)).heap.size = w.heap.size + 1 by simp] at this
    rw [hW1]; exact this
  have HL0 : Hid _ := ld_adT6 hl b0
  have HL1 : Hid _ := ld_adT6 hq b1
  have c0 : W1.cell? ⟨w.heap.size, 16, none⟩ = some (.int .i64 n) := blk_cell b0 (by have := cp6_at l n; rw [hl] at this; simpa using this)
  have c1 : W1.cell? ⟨w.heap.size + 1, 16, none⟩ = some (.int .i64 m) := blk_cell b1 (by have := cp6_at q m; rw [hq] at this; simpa using this)
  have HNE : Hid _ := fun W => neqA6T l q hf hg hl hq W
  have HGD : Hid _ := fun (W : World) (x y : Operand) => gdA6T .neq x y (u8s l).toArray (u8s q).toArray W
  have HLS : Hid _ := less_nums hf hg
  have HB0 : Hid (W1.heap[w.heap.size]? = some (.cells (cp6 l n).toArray 39)) := b0
  have HB1 : Hid (W1.heap[w.heap.size + 1]? = some (.cells (cp6 q m).toArray 39)) := b1
  have HKB : Hid (Below w.heap.size w W1) := hB1
  have hW := hW1.symm
  clear hB1 b0 b1 hW1 hf hg
  by_cases c : l = q
  · have hd := decide_eq_true c
    rw [hd] at HNE
    rw [if_pos c]
    clear hd c HB0 HB1 HLS
    go_enter Try.func60, Try.ntmps60
    go_wp2_with first
      | ((with_reducible show wpList _ _ _ _ _ _); refine armLv (.tmp 5) 37 rfl rfl rfl HL0.out ?_)
      | ((with_reducible show wpList _ _ _ _ _ _); refine armLv (.tmp 7) 37 rfl rfl rfl HL1.out ?_)
      | ((with_reducible show wpList _ _ _ _ _ _); refine arm_bin rfl .neq 37 37 (.tmp 6) (.tmp 8) rfl rfl rfl (HGD.out _ _ _) (HNE.out _) ?_)
    try go_ret
    exact ⟨rfl, HKB.out⟩
  · have hd := decide_eq_false c
    rw [hd] at HNE
    rw [if_neg c]
    clear hd c c0 c1
    go_enter Try.func60, Try.ntmps60
    go_wp2_with first
      | ((with_reducible show wpList _ _ _ _ _ _); refine armLv (.tmp 5) 37 rfl rfl rfl HL0.out ?_)
      | ((with_reducible show wpList _ _ _ _ _ _); refine armLv (.tmp 7) 37 rfl rfl rfl HL1.out ?_)
      | ((with_reducible show wpList _ _ _ _ _ _); refine arm_bin rfl .neq 37 37 (.tmp 6) (.tmp 8) rfl rfl rfl (HGD.out _ _ _) (HNE.out _) ?_)
    refine region_midT (fun a0 a' w' => a' = ((((((((a0.put (some 10) (.pointer (some ⟨w.heap.size, 0, none⟩))).put (some 11) (.slice (some ⟨w.heap.size, 0, none⟩) 16 16)).put (some 12) (.string (strOfNums l))).put (some 13) (.pointer (some ⟨w.heap.size + 1, 0, none⟩))).put (some 14) (.slice (some ⟨w.heap.size + 1, 0, none⟩) 16 16)).put (some 15) (.string (strOfNums q))).put (some 16) (.bool (ltI l q))).put (some 4) (.bool (ltI l q))) ∧ Below W1.heap.size W1 w') ?_ ?_
    · skip
      refine wp_region_held (S := fun X => X.heap[w.heap.size]? = some (.cells (cp6 l n).toArray 39) ∧ X.heap[w.heap.size + 1]? = some (.cells (cp6 q m).toArray 39)) (by kernel_rfl) ?_
      show wpAnyH _ _ _ _ _ 8 (Array.replicate 8 false) _ _
      refine take_one (i := 0) (d := some 10) (v := .pointer (some ⟨w.heap.size, 0, none⟩)) rfl rfl rfl (by kernel_rfl) (by kernel_rfl) (by kernel_rfl) (fun _ _ d _ _ h => by cases d <;> exact h) (fun X hS => by kernel_rfl) (show _ ∧ _ from ⟨HB0.out, HB1.out⟩) ?_
      simp only [Act.put, List.setIfInBounds_toArray, List.set_cons_zero, List.set_cons_succ]
      refine take_one (i := 1) (d := some 11) (v := .slice (some ⟨w.heap.size, 0, none⟩) 16 16) rfl rfl rfl (by kernel_rfl) (by kernel_rfl) (by kernel_rfl) (fun _ _ d _ _ h => by cases d <;> exact h) (fun X hS => ex_slcA6 10 rfl rfl) (show _ ∧ _ from ⟨HB0.out, HB1.out⟩) ?_
      simp only [Act.put, List.setIfInBounds_toArray, List.set_cons_zero, List.set_cons_succ]
      refine take_one (i := 2) (d := some 12) (v := .string (strOfNums l)) rfl rfl rfl (by kernel_rfl) (by kernel_rfl) (by kernel_rfl) (fun _ _ d _ _ h => by cases d <;> exact h) (fun X hS => ex_convS (.tmp 11) rfl rfl (cv_T6 hl hS.1)) (show _ ∧ _ from ⟨HB0.out, HB1.out⟩) ?_
      simp only [Act.put, List.setIfInBounds_toArray, List.set_cons_zero, List.set_cons_succ]
      refine take_one (i := 3) (d := some 13) (v := .pointer (some ⟨w.heap.size + 1, 0, none⟩)) rfl rfl rfl (by kernel_rfl) (by kernel_rfl) (by kernel_rfl) (fun _ _ d _ _ h => by cases d <;> exact h) (fun X hS => by kernel_rfl) (show _ ∧ _ from ⟨HB0.out, HB1.out⟩) ?_
      simp only [Act.put, List.setIfInBounds_toArray, List.set_cons_zero, List.set_cons_succ]
      refine take_one (i := 4) (d := some 14) (v := .slice (some ⟨w.heap.size + 1, 0, none⟩) 16 16) rfl rfl rfl (by kernel_rfl) (by kernel_rfl) (by kernel_rfl) (fun _ _ d _ _ h => by cases d <;> exact h) (fun X hS => ex_slcA6 13 rfl rfl) (show _ ∧ _ from ⟨HB0.out, HB1.out⟩) ?_
      simp only [Act.put, List.setIfInBounds_toArray, List.set_cons_zero, List.set_cons_succ]
      refine take_one (i := 5) (d := some 15) (v := .string (strOfNums q)) rfl rfl rfl (by kernel_rfl) (by kernel_rfl) (by kernel_rfl) (fun _ _ d _ _ h => by cases d <;> exact h) (fun X hS => ex_convS (.tmp 14) rfl rfl (cv_T6 hq hS.2)) (show _ ∧ _ from ⟨HB0.out, HB1.out⟩) ?_
      simp only [Act.put, List.setIfInBounds_toArray, List.set_cons_zero, List.set_cons_succ]
      refine take_one (i := 6) (d := some 16) (v := .bool (ltI l q)) rfl rfl rfl (by kernel_rfl) (by kernel_rfl) (by kernel_rfl) (fun _ _ d _ _ h => by cases d <;> exact h) (fun X hS => ex_lssS (.tmp 12) (.tmp 15) rfl rfl rfl HLS.out) (show _ ∧ _ from ⟨HB0.out, HB1.out⟩) ?_
      simp only [Act.put, List.setIfInBounds_toArray, List.set_cons_zero, List.set_cons_succ]
      refine take_one (i := 7) (d := some 4) (v := .bool (ltI l q)) rfl rfl rfl (by kernel_rfl) (by kernel_rfl) (by kernel_rfl) (fun _ _ d _ _ h => by cases d <;> exact h) (fun X hS => by kernel_rfl) (show _ ∧ _ from ⟨HB0.out, HB1.out⟩) ?_
      simp only [Act.put, List.setIfInBounds_toArray, List.set_cons_zero, List.set_cons_succ]
      refine wpAnyH_done (by kernel_rfl) ?_ _
      exact ⟨rfl, by first | exact (Below.refl _ W1).drew | exact (Below.refl _ W1).drew.drew⟩
    · rintro a' w4 ⟨rfl, hb4⟩
      simp only [Act.put, List.setIfInBounds_toArray, List.set_cons_zero, List.set_cons_succ]
      have HF : Hid (Below w.heap.size w w4) := HKB.out.trans (hb4.mono HKB.out.size)
      clear hb4 HKB HB0 HB1 HL0 HL1 hW
      go_wp2
      try go_ret
      exact ⟨rfl, HF.out⟩
end Go.Proofs.Ytenahbdopgmpfaa
