/-
  slices.Insert at the end of a row of pointers.
-/
import Derived.Test.YtgndiblonhgihaaPnC
import Derived.Maps.AppendAt
namespace Go.Proofs.Ytgndiblonhgihaa
open Go Go.RowKit Go.Lib
set_option linter.unusedVariables false
set_option linter.unusedSimpArgs false

theorem infoP8 : ∃ i, Try.prog.info? 74 = some i ∧ i.zero = some (.pointer none) ∧ i.size = 1 ∧ i.bytes = 8 := by
  have : (Try.prog.info? 74).map (fun i => (i.zero, i.size, i.bytes)) = some (some (.pointer none), 1, 8) := by kernel_rfl
  obtain ⟨i, h1, h2⟩ := Option.map_eq_some_iff.1 this
  injection h2 with h2 h3
  injection h3 with h3 h4
  exact ⟨i, h1, h2, h3, h4⟩
/-- What an insertion leaves. -/
def Insd (v : Value) (n k : Nat) (xs : List Value) (p : Value) (W : World) (e : Ending) (w' : World) : Prop :=
  ∃ v', e = .returned v' ∧ w'.ownsRow 0 74 1 v' (n + 1) (xs.take k ++ p :: xs.drop k) ∧ (v'.ownBlock = v.ownBlock ∨ ∀ g, v'.ownBlock = some g → W.heap.size ≤ g) ∧
    w'.os = W.os ∧ w'.tape = W.tape ∧ w'.output = W.output ∧ W.heap.size ≤ w'.heap.size ∧ ∀ g, g < W.heap.size → v.ownBlock ≠ some g → w'.heap[g]? = W.heap[g]?
set_option maxHeartbeats 4000000 in
set_option maxRecDepth 100000 in
theorem insert_end {W : World} {v : Value} {n : Nat} {xs : List Value} (h : W.ownsRow 0 74 1 v n xs) (hn : n ≤ 1000000) {vb : Nat} {p : Value} (hp : p.oneCell' = true) (hb : W.heap[vb]? = some (.cells [p].toArray 74)) :
    Calls Try.prog 41 #[v, .int .i64 (n : Int), .slice (some ⟨vb, 0, none⟩) 1 1] W fun e w' => Insd v n n xs p W e w' := by
  generalize hQ : (fun (e : Ending) (w' : World) => Insd v n n xs p W e w') = Q
  have HQ : Hid (∀ e w', Insd v n n xs p W e w' → Q e w') := fun e w' hh => by rw [← hQ]; exact hh
  clear hQ
  have hxl : xs.length = n := by have := h.1; omega
  obtain ⟨i, hi, hz, hsz, hby⟩ := infoP8
  have hap : ∀ ty, ∃ v' w', (Builtin.append_ #[62, 62] ty #[v, .slice (some ⟨vb, 0, none⟩) 1 1]).run Try.prog W = .ok v' w' ∧ Insd v n n xs p W (.returned v') w' := fun ty => by
    obtain ⟨v', w', hrun, hown, hgr, _, hat⟩ := run_append_own_at (P := Try.prog) W 0 62 ty 74 i (.pointer none) 1 8 Try.underlying62 hi hz hsz hby rfl (by decide) v n xs h ⟨vb, 0, none⟩ 1 1 [p] rfl
      (fun j x hj => by
        rw [Go.WideShapes.add_plain]
        exact blk_cell hb (by simpa using hj)) (fun u hu => by simp at hu; rw [hu]; exact hp) (by unfold maxLen; omega) (by omega) (Nat.zero_le _)
    refine ⟨v', w', hrun, v', rfl, ?_, ?_, hgr.os, hgr.tape, hgr.output, hgr.size, fun g hg hne => hgr.block g hg (fun e => hne e.symm)⟩
    · rw [List.take_of_length_le (by omega), List.drop_eq_nil_of_le (by omega)]
      exact hown
    · rcases hat with e | e
      · exact .inl e
      · exact .inr (fun g hg => by rw [e] at hg; injection hg with hg; omega)
  obtain ⟨la, lc, hline⟩ := own_slc h
  have hsl : ∃ a' c', ∀ w : World, (Instr.sliceAt 62 (.slice la n lc) (some (.int .i64 n)) none none).run Try.prog w = .ok (.slice a' 0 c') w := by
    rcases h.2 with ⟨h1, h0⟩ | ⟨g, cap, cur, hv, _, _, h3, h4, _⟩
    · rw [hline] at h1
      injection h1 with e1 e2 e3
      subst e1 e3
      rw [h0]
      exact ⟨none, 0, fun w => by simp [Instr.sliceAt, go_sem]⟩
    · rw [hline] at hv
      injection hv with e1 e2 e3
      subst e1 e3
      have h5 : (0 : Int) ≤ n := by omega
      by_cases hc : lc = n
      · exact ⟨some ⟨g, 0, none⟩, 0, fun w => by simp [Instr.sliceAt, go_sem, h5, hc]⟩
      · refine ⟨some ⟨g, n, none⟩, lc - n, fun w => ?_⟩
        simp [Instr.sliceAt, go_sem, h5, hc, h3]
        try omega
  obtain ⟨a', c', hsl⟩ := hsl
  subst hline
  have HAP : Hid _ := hap
  clear h hap hi hz hsz hby hb hp hxl
  go_enter Try.func41, Try.ntmps41
  go_wp2_with first
    | ((with_reducible show wpList _ _ _ ({ dst := _, op := Op.slice 62 (Operand.tmp 10) _ _ none, type := _, pos := _, after := _, guard := _ } :: _) _ _); refine wpList_plain rfl fun K hK => ?_; unfold Oper.wp; rw [ex_slcE (.tmp 10) (some (.tmp 11)) none rfl rfl rfl rfl (hsl _)]; refine hK _ _ ?_)
    | ((with_reducible show wpList _ _ _ ({ dst := _, op := Op.call { callee := Callee.builtin Builtin.append, args := #[Operand.tmp 23, Operand.tmp 24], argTypes := #[62, 62] }, type := _, pos := _, after := _, guard := _ } :: _) _ _); refine wpList_plain rfl fun K hK => ?_; unfold Oper.wp; (obtain ⟨v', w', hrun, hins⟩ := HAP.out _); rw [ex_apE (.tmp 23) (.tmp 24) rfl rfl rfl hrun]; refine hK _ _ ?_; clear HAP hrun)
  try go_returns
  exact HQ.out _ _ hins
end Go.Proofs.Ytgndiblonhgihaa
