/-
  Loads and stores of whole arrays.
-/
import Derived.Test.YtlpbffcijhgelaaDoorAddrGhelp
namespace Go.Proofs.YtlpbffcijhgelaaDoor
open Go Go.RowKit
set_option linter.unusedVariables false
set_option linter.unusedSimpArgs false

theorem wpList_load_run {P : Program} {w : World} {ops : Array Oper} {rest : List Oper} {o : Oper} {a : Act} {Q : Exit → Act → World → Prop} (hg : o.guard = none) (p : Operand) (t : TypeId)
    (hop : o.op = Op.load t p) {vp v : Value} (hp : a.eval p = vp) (hrun : (Instr.loadAt t vp).run P w = .ok v w) (hK : wpList P ops Q rest (a.put o.dst v) w) : wpList P ops Q (o :: rest) a w := by
  refine wpList_plain hg fun K hK' => ?_
  unfold Oper.wp
  simp [execOp, hop, hp, hrun, Result.andThen]
  exact hK' _ _ hK

theorem wpList_store_run {P : Program} {w w2 : World} {ops : Array Oper} {rest : List Oper} {o : Oper} {a : Act} {Q : Exit → Act → World → Prop} (hg : o.guard = none) (p x : Operand) (t : TypeId)
    (hop : o.op = Op.store t p x) {vp vx : Value} (hp : a.eval p = vp) (hx : a.eval x = vx) (hrun : (Instr.storeAt t vp vx).run P w = .ok () w2) (hK : wpList P ops Q rest (a.put o.dst (.tuple #[])) w2) : wpList P ops Q (o :: rest) a w := by
  refine wpList_plain hg fun K hK' => ?_
  unfold Oper.wp
  simp [execOp, hop, hp, hx, hrun, Result.andThen]
  exact hK' _ _ hK

theorem load16 {w : World} {A : Nat} {l : List Int} (h : ArrAt w A l) : (Instr.loadAt 31 (.pointer (some ⟨A, 0, none⟩))).run Tryd.prog w = .ok (addrV l) w := by
  have hl := run_loadCells_list (P := Tryd.prog) w ⟨A, 0, none⟩ (l.map (fun z => Value.int .u8 z)) (fun j v hj => by
    rw [Go.WideShapes.add_plain]
    rw [List.getElem?_map] at hj
    cases hz : l[j]? with
    | none => simp [hz] at hj
    | some z => simp [hz] at hj; subst hj; simpa using h.cell j z hz)
  have h16 : (l.map (fun z => Value.int .u8 z)).length = 16 := by simpa using h.len
  rw [h16] at hl
  have hi : (Tryd.prog.info? 31).map (·.size) = some 16 := by kernel_rfl
  cases hq : Tryd.prog.info? 31 with
  | none => rw [hq] at hi; cases hi
  | some i =>
    rw [hq] at hi
    have hi2 : i.size = 16 := by simpa using hi
    simp [Instr.loadAt, Instr.sureAddr, loadVar, isAgg, sizeOf, typeInfo, run_underlying Tryd.underlying31, hl, hq, hi2]
    rfl

theorem store16 {w : World} {R : Nat} (l : List Int) (hl : l.length = 16) (hc : ∀ i, i < 16 → (w.cell? ⟨R, i, none⟩).isSome = true) (hf : ∀ i, w.frozen? ⟨R, i, none⟩ = false) :
    (Instr.storeAt 31 (.pointer (some ⟨R, 0, none⟩)) (addrV l)).run Tryd.prog w = .ok () (w.setCells R 0 (l.map (fun z => Value.int .u8 z))) := by
  have hst := run_storeCells_cells (P := Tryd.prog) R 0 (l.map (fun z => Value.int .u8 z)) 0 w (fun j hj => by simpa using hc j (by simpa [hl] using hj)) (fun j hj => by simpa using hf j) (by simp [Value.oneCell'])
  have hi : (Tryd.prog.info? 31).map (·.size) = some 16 := by kernel_rfl
  cases hq : Tryd.prog.info? 31 with
  | none => rw [hq] at hi; cases hi
  | some i =>
    rw [hq] at hi
    have hi2 : i.size = 16 := by simpa using hi
    simp [Instr.storeAt, Instr.sureAddr, storeVar, sizeOf, typeInfo, hq, hi2, addrV, Value.cells, hl]
    simpa using hst

theorem Below.setCells {B : Nat} {a : World} {R : Nat} (hB : B ≤ R) : ∀ (vs : List Value) (o : Nat) (w : World), Below B a w → Below B a (w.setCells R o vs)
  | [], _, _, h => h
  | v :: r, o, w, h => by
    unfold World.setCells
    exact Below.setCells hB r (o + 1) _ (h.setCell hB v)

theorem loadVar16 {w : World} {A : Nat} {l : List Int} (h : ArrAt w A l) : (loadVar 31 ⟨A, 0, none⟩).run Tryd.prog w = .ok (addrV l) w := by
  have := load16 h
  simpa [Instr.loadAt, Instr.sureAddr] using this

theorem results_cell1 {P : Program} {fn : Func} {a : Tmp} {t : TypeId} (h : fn.results = #[.cell a t]) {tmps : Array Value} {R : Addr} (hp : tmps.getD a undef = .pointer (some R)) {v : Value} {w : World} (hl : (loadVar t R).run P w = .ok v w) :
    (results fn tmps).run P w = .ok v w := by
  rw [Array.getD_eq_getD_getElem?] at hp
  simp [results, h, hp, asAddr, hl]

theorem results_cell3 {P : Program} {fn : Func} {a b c : Tmp} {t : TypeId} (h : fn.results = #[.cell a t, .tmp b, .tmp c]) {tmps : Array Value} {R : Addr} (hp : tmps.getD a undef = .pointer (some R)) {v : Value} {w : World} (hl : (loadVar t R).run P w = .ok v w) :
    (results fn tmps).run P w = .ok (.tuple #[v, tmps.getD b undef, tmps.getD c undef]) w := by
  rw [Array.getD_eq_getD_getElem?] at hp
  simp [results, h, hp, asAddr, hl]

/-- Behind a store of 16 bytes. -/
theorem arr_stored {w : World} {R : Nat} {l : List Int} (hl : l.length = 16) (hc : ∀ i, i < 16 → (w.cell? ⟨R, i, none⟩).isSome = true) (ht : Typed w R 31) : ArrAt (w.setCells R 0 (l.map (fun z => Value.int .u8 z))) R l := by
  have hW : Wrote R 0 16 w (w.setCells R 0 (l.map (fun z => Value.int .u8 z))) := wrote_setCells R _ 0 _ 0 w w (Wrote.refl _ _ _ _) (Nat.le_refl _) (by simp [hl])
  refine ⟨hl, fun j z hj => ?_, ht.wrote hW⟩
  have hj' := (List.getElem?_eq_some_iff.1 hj)
  obtain ⟨hlt, hz⟩ := hj'
  have := World.cell?_setCells_in R (l.map (fun z => Value.int .u8 z)) 0 w (fun j hj => by simpa using hc j (by simpa [hl] using hj)) j (by simpa using hlt)
  simpa [hz] using this

theorem slice16 (A k : Nat) (hk : k ≤ 16) : ∃ o, (k < 16 → o = k) ∧ ∀ X, (Instr.sliceAt 31 (.pointer (some ⟨A, 0, none⟩)) (some (.int .i64 k)) none none).run Tryd.prog X = .ok (.slice (some ⟨A, o, none⟩) (16 - k) (16 - k)) X := by
  by_cases h : k = 16
  · subst h
    refine ⟨0, fun h => by omega, fun X => ?_⟩
    kernel_rfl
  · refine ⟨k, fun _ => rfl, fun X => ?_⟩
    simp [Instr.sliceAt, go_sem, run_underlying Tryd.underlying31]
    rw [if_pos (by omega), if_neg (by omega)]

theorem copy_end {w1 X : World} {l kk : List Int} {a : Option Addr} {cap A : Nat} (h : Giv w1 l (.slice a l.length cap) X) (hA0 : ArrAt X A kk) (hAB : w1.heap.size ≤ A) (γ : Nat) (hγ : γ ≤ l.length) (hl : l.length ≤ 14) (a' : Option Addr) (o k c : Nat) (hk : k = 16 - (l.length - γ)) (ho : k < 16 → o = k)
    (ha : l.length - γ = 0 ∨ ∃ G, a = some ⟨G, 0, none⟩ ∧ a' = some ⟨G, γ, none⟩) (ty : TypeId) :
    ∃ v' w2, (Builtin.copy_ #[81, 81] ty #[.slice (some ⟨A, o, none⟩) (16 - k) (16 - k), .slice a' (l.length - γ) c]).run Tryd.prog X = .ok v' w2 ∧ ArrAt w2 A (kk.take k ++ l.drop γ) ∧ Below w1.heap.size w1 w2 := by
  by_cases hm : l.length - γ = 0
  · have hinf : (Tryd.prog.info? 5).map (·.size) = some 1 := by kernel_rfl
    have hk16 : k = 16 := by omega
    have e1 : l.drop γ = [] := List.drop_eq_nil_of_le (by omega)
    have e2 : kk.take k = kk := List.take_of_length_le (by rw [hA0.len]; omega)
    refine ⟨_, X, run_copy_none X _ _ ty 5 _ a' _ _ _ c Tryd.underlying81 hinf (by rw [hm]; simp), ?_, h.below⟩
    rw [e1, e2, List.append_nil]
    exact hA0
  · obtain rfl := ho (by omega)
    obtain ⟨v', w2, hrun, hA, hB⟩ := copy_tail h hA0 hAB γ hγ hl a' o (l.length - γ) c (16 - o) rfl (by omega) (by
      rcases ha with h0 | hx
      · exact absurd h0 hm
      · exact .inr hx) ty
    have e : 16 - (l.length - γ) = o := by omega
    have e' : l.length - γ = 16 - o := by omega
    refine ⟨v', w2, ?_, by rw [e] at hA; exact hA, hB⟩
    rw [← e'] at hrun ⊢
    exact hrun

theorem copy_zero (X : World) : ∀ (d a : Option Addr) (x y : Nat), (Builtin.copy_ #[81, 81] 3 #[.slice d 0 x, .slice a 0 y]).run Tryd.prog X = .ok (goInt 0) X := fun d a x y =>
  run_copy_none X _ _ _ 5 d a 0 x 0 y Tryd.underlying81 (by kernel_rfl) (by simp)

theorem gap_list (L : List Int) (γ k : Nat) (hγ : γ ≤ L.length) (hl : L.length ≤ 14) (hk : k = 16 - (L.length - γ)) : (L.take γ ++ List.replicate (16 - γ) 0).take k ++ L.drop γ = L.take γ ++ List.replicate (16 - L.length) 0 ++ L.drop γ := by
  have h1 : (L.take γ).length = γ := by simp; omega
  rw [List.take_append, h1, List.take_of_length_le (by omega), List.take_replicate]
  rw [show min (k - γ) (16 - γ) = 16 - L.length by omega]

end Go.Proofs.YtlpbffcijhgelaaDoor
