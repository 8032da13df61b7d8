/-
  forget of nothing; goOn.
-/
import Derived.Test.YtgndiblonhgihaaPn9
namespace Go.Proofs.Ytgndiblonhgihaa
open Go Go.RowKit Go.Lib
set_option linter.unusedVariables false
set_option linter.unusedSimpArgs false

theorem Fr.trans {pb mb : Nat} {l1 l2 : Value} {A B C : World} (h : Fr pb mb l1 A B) (g : Fr pb mb l2 B C) (hl : l2.ownBlock = l1.ownBlock) : Fr pb mb l1 A C :=
  ⟨g.os.trans h.os, g.tape.trans h.tape, g.output.trans h.output, Nat.le_trans h.size g.size, fun k hk h1 h2 h3 => (g.other k (Nat.lt_of_lt_of_le hk h.size) h1 h2 (by rw [hl]; exact h3)).trans (h.other k hk h1 h2 h3)⟩
theorem Fr.below {pb mb : Nat} {l : Value} {A B : World} (h : Below A.heap.size A B) : Fr pb mb l A B := ⟨h.os, h.tape, h.output, h.size, fun k hk _ _ _ => h.block k hk⟩
theorem Keeps.on {pb mb : Nat} {cf : Cf} {now : Int} {line : Value} {L : List (PE × Nat)} {W W' : World} (h : Keeps pb cf now mb line L W) (hb : Below W.heap.size W W') : Keeps pb cf now mb line L W' := by
  obtain ⟨M, h1, h2⟩ := h.m
  exact ⟨h.p.on hb, ⟨M, h1.on (hb.block _ h1.lt), h2⟩, h.kn⟩
set_option maxHeartbeats 4000000 in
set_option maxRecDepth 100000 in
theorem forget_none {V : World} {pb mb : Nat} {cf : Cf} {now : Int} {line : Value} {L : List (PE × Nat)} (h : Keeps pb cf now mb line L V) {i : Nat} (hi : i ≤ L.length) :
    Calls Try.prog 37 #[.pointer (some ⟨pb, 0, none⟩), .int .i64 (i : Int), .int .i64 (i : Int)] V fun e w' => e = .returned (.tuple #[]) ∧ Keeps pb cf now mb line L w' ∧ Fr pb mb line V w' ∧ w'.heap.size = V.heap.size := by
  generalize hQ : (fun (e : Ending) (w' : World) => e = .returned (.tuple #[]) ∧ Keeps pb cf now mb line L w' ∧ Fr pb mb line V w' ∧ w'.heap.size = V.heap.size) = Q
  have HQ : Hid (∀ e w', (e = .returned (.tuple #[]) ∧ Keeps pb cf now mb line L w' ∧ Fr pb mb line V w' ∧ w'.heap.size = V.heap.size) → Q e w') := fun e w' hh => by rw [← hQ]; exact hh
  clear hQ
  obtain ⟨la, lc, hline⟩ := h.p.slc
  have hsl : ∃ a' c', ∀ w : World, (Instr.sliceAt 62 (.slice la L.length lc) (some (.int .i64 i)) (some (.int .i64 i)) none).run Try.prog w = .ok (.slice a' 0 c') w := by
    rcases h.p.row.2 with ⟨h1, h0⟩ | ⟨g, cap, cur, hv, _, _, h3, h4, _⟩
    · rw [hline] at h1
      injection h1 with e1 e2 e3
      subst e1 e3
      obtain rfl : i = 0 := by omega
      rw [h0]
      exact ⟨none, 0, fun w => by simp [Instr.sliceAt, go_sem]⟩
    · rw [hline] at hv
      injection hv with e1 e2 e3
      subst e1 e3
      have h5 : (0 : Int) ≤ i := by omega
      by_cases hc : lc = i
      · exact ⟨some ⟨g, 0, none⟩, 0, fun w => by simp [Instr.sliceAt, go_sem, h5, hc, hi]⟩
      · refine ⟨some ⟨g, i, none⟩, lc - i, fun w => ?_⟩
        have h6 : i ≤ lc := by omega
        simp [Instr.sliceAt, go_sem, h5, hc, hi, h6]
  obtain ⟨a', c', hsl⟩ := hsl
  have HD := del_none h.p.row hi
  have b0 := h.p.box
  rw [hline] at HD b0
  have c6 : V.cell? ⟨pb, 6, none⟩ = some (.slice la L.length lc) := blk_cell (j := 6) b0 rfl
  have f6 : V.frozen? ⟨pb, 6, none⟩ = false := blk_open b0 6
  obtain ⟨w3, hw3⟩ : ∃ w3, w3 = V.setCell ⟨pb, 6, none⟩ (.slice la L.length lc) := ⟨_, rfl⟩
  have b3 : w3.heap[pb]? = V.heap[pb]? := by rw [hw3, b0]; exact blk_set b0 6 _
  have o3 : Only pb V w3 := by rw [hw3]; exact (Only.refl pb V).set 6 _
  have hall : ∀ k, w3.heap[k]? = V.heap[k]? := fun k => by
    by_cases hk : k = pb
    · rw [hk]; exact b3
    · exact o3.other k hk
  have HF : Hid (Keeps pb cf now mb line L w3 ∧ Fr pb mb line V w3 ∧ w3.heap.size = V.heap.size) := by
    obtain ⟨M, h1, h2⟩ := h.m
    exact ⟨⟨h.p.same (hall _) (fun b _ => hall b) (fun x _ => hall _), ⟨M, h1.on (hall _), h2⟩, h.kn⟩, ⟨o3.os, o3.tape, o3.output, by rw [o3.size]; exact Nat.le_refl _, fun k _ _ _ _ => hall k⟩, o3.size⟩
  have HD : Hid _ := HD
  have hw := hw3.symm
  have HSL : Hid _ := hsl
  have hil : i ≤ L.length := hi
  have hmax : lc ≤ 9223372036854775807 ∧ L.length ≤ lc := by
    rcases h.p.row.2 with ⟨h1, h0⟩ | ⟨g, cap, cur, hv, _, _, h3, h4, _⟩
    · rw [hline] at h1
      injection h1 with e1 e2 e3
      omega
    · rw [hline] at hv
      injection hv with e1 e2 e3
      unfold maxLen at h4
      omega
  obtain ⟨hm1, hm2⟩ := hmax
  clear hw3 b0 b3 o3 hall h hline hi
  go_enter Try.func37, Try.ntmps37
  go_wp2_with first
    | ((with_reducible show wpList _ _ _ ({ dst := _, op := Op.slice 62 _ _ _ none, type := _, pos := _, after := _, guard := _ } :: _) _ _); refine wpList_plain rfl fun K hK => ?_; unfold Oper.wp; rw [ex_slcE (.tmp 11) (some (.tmp 12)) (some (.tmp 13)) rfl rfl rfl rfl (hsl _)]; refine hK _ _ ?_)
  go_loopw [16] (fun iv wr => iv = .int .i64 0 ∧ wr = V) (fun _ _ => 0)
  case atStart => exact ⟨rfl, rfl⟩
  case round =>
    obtain ⟨rfl, rfl⟩ := hrel
    go_wp2_with fail
    refine Calls.mono HD.out ?_
    rintro e w2 ⟨rfl, rfl⟩
    go_wp2_with fail
    try go_returns
    first
    | exact HQ.out _ _ ⟨rfl, HF.out⟩
    | (rw [hw]; exact HQ.out _ _ ⟨rfl, HF.out⟩)
theorem forget_any {V : World} {pb mb : Nat} {cf : Cf} {now : Int} {line : Value} {L : List (PE × Nat)} (h : Keeps pb cf now mb line L V) {i j : Nat} (hij : i ≤ j) (hj : j ≤ L.length) :
    Calls Try.prog 37 #[.pointer (some ⟨pb, 0, none⟩), .int .i64 (i : Int), .int .i64 (j : Int)] V fun e w' => e = .returned (.tuple #[]) ∧ ∃ line', Keeps pb cf now mb line' (L.take i ++ L.drop j) w' ∧ line'.ownBlock = line.ownBlock ∧ Fr pb mb line V w' ∧ w'.heap.size = V.heap.size := by
  by_cases e : i = j
  · subst e
    refine (forget_none h hj).mono ?_
    rintro e w' ⟨rfl, h1, h2, h3⟩
    exact ⟨rfl, line, by rw [List.take_append_drop]; exact h1, rfl, h2, h3⟩
  · exact forget_some h (by omega) hj
end Go.Proofs.Ytgndiblonhgihaa
