/-
  What a copy into an array of the call's own does.
-/
import Derived.Test.YtlpbffcijhgelaaDoorAddrParse4
import Derived.Laws.IdiomCopy
namespace Go.Proofs.YtlpbffcijhgelaaDoor
open Go Go.RowKit
set_option linter.unusedVariables false
set_option linter.unusedSimpArgs false

theorem list16 {l : List Int} (h : l.length = 16) : ∃ x0 x1 x2 x3 x4 x5 x6 x7 x8 x9 x10 x11 x12 x13 x14 x15 : Int, l = [x0, x1, x2, x3, x4, x5, x6, x7, x8, x9, x10, x11, x12, x13, x14, x15] := by
  match l, h with
  | [x0, x1, x2, x3, x4, x5, x6, x7, x8, x9, x10, x11, x12, x13, x14, x15], _ => exact ⟨x0, x1, x2, x3, x4, x5, x6, x7, x8, x9, x10, x11, x12, x13, x14, x15, rfl⟩


/-- A built-in copy of which it is known what it leaves. -/
theorem wpList_copy_ex {P : Program} {w : World} {ops : Array Oper} {rest : List Oper} {o : Oper} {a : Act} {Q : Exit → Act → World → Prop} {R : Value → World → Prop} (hg : o.guard = none) (s x : Operand) (t u : TypeId)
    (hop : o.op = Op.call { callee := Callee.builtin Builtin.copy, args := #[s, x], argTypes := #[t, u] }) {vs vx : Value} (hs : a.eval s = vs) (hx : a.eval x = vx)
    (hex : ∃ v w2, (Builtin.copy_ #[t, u] o.type #[vs, vx]).run P w = .ok v w2 ∧ R v w2) (hK : ∀ v w2, R v w2 → wpList P ops Q rest (a.put o.dst v) w2) : wpList P ops Q (o :: rest) a w := by
  obtain ⟨v, w2, hrun, hr⟩ := hex
  refine wpList_plain hg fun K hK' => ?_
  unfold Oper.wp
  simp [execOp, hop, resolve, invoke, builtin, hs, hx, hrun, Result.andThen]
  exact hK' _ _ (hK v w2 hr)

theorem step_copy_ex {P : Program} {ops : Array Oper} {o : Oper} {a : Act} {w : World} {K : Act → World → Prop} {Q : Exit → Act → World → Prop} {E : Prop} {R : Value → World → Prop} (hg : o.guard = none) (s x : Operand) (t u : TypeId)
    (hop : o.op = Op.call { callee := Callee.builtin Builtin.copy, args := #[s, x], argTypes := #[t, u] }) {vs vx : Value} (hs : a.eval s = vs) (hx : a.eval x = vx)
    (hex : ∃ v w2, (Builtin.copy_ #[t, u] o.type #[vs, vx]).run P w = .ok v w2 ∧ R v w2) (hK : ∀ v w2, R v w2 → K (a.put o.dst v) w2) :
    if Region.wanted o (yielded ops a.tmps) = true then Oper.wp P o a w K Q else E := by
  have hw : Region.wanted o (yielded ops a.tmps) = true := by simp [Region.wanted, hg]
  rw [if_pos hw]
  obtain ⟨v, w2, hrun, hr⟩ := hex
  unfold Oper.wp
  simp [execOp, hop, resolve, invoke, builtin, hs, hx, hrun, Result.andThen]
  exact hK _ _ hr

/-- An array of 16 bytes in a block of its own. -/
structure ArrAt (w : World) (A : Nat) (l : List Int) : Prop where
  len : l.length = 16
  cell : ∀ (j : Nat) z, l[j]? = some z → w.cell? ⟨A, j, none⟩ = some (.int .u8 z)
  typed : Typed w A 31

theorem ArrAt.drew {w : World} {A : Nat} {l : List Int} (h : ArrAt w A l) : ArrAt w.drew A l := ⟨h.len, h.cell, h.typed⟩

theorem wrote_setCells (b : Nat) : ∀ (vs : List Value) (o k p : Nat) (u w : World), Wrote b p k u w → p ≤ o → o + vs.length ≤ p + k → Wrote b p k u (w.setCells b o vs)
  | [], _, _, _, _, _, h, _, _ => h
  | v :: r, o, k, p, u, w, h, h1, h2 => by
    unfold World.setCells
    simp at h2
    exact wrote_setCells b r (o + 1) k p u _ (h.set (by omega) v) (by omega) (by omega)

theorem copy_ex {w : World} {A : Nat} {l : List Int} (h : ArrAt w A l) (zs : List Int) (a : Option Addr) (o dl dc c : Nat) (ho : o + dl = 16) (hm : zs.length ≤ dl)
    (hsrc : zs.length = 0 ∨ ∃ x : Addr, a = some x ∧ ∀ (j : Nat) z, zs[j]? = some z → w.cell? (x.add j) = some (.int .u8 z)) (ty : TypeId) :
    ∃ v w2, (Builtin.copy_ #[81, 81] ty #[.slice (some ⟨A, o, none⟩) dl dc, .slice a zs.length c]).run Tryd.prog w = .ok v w2 ∧ ArrAt w2 A (l.take o ++ zs ++ l.drop (o + zs.length)) ∧ Wrote A o zs.length w w2 := by
  have hinf : (Tryd.prog.info? 5).map (·.size) = some 1 := by kernel_rfl
  have hlen := h.len
  rcases hsrc with h0 | ⟨x, rfl, hx⟩
  · obtain rfl : zs = [] := List.length_eq_zero_iff.1 h0
    refine ⟨_, w, run_copy_none w _ _ ty 5 _ a dl dc 0 c Tryd.underlying81 hinf (by simp), ?_, Wrote.refl _ _ _ _⟩
    simpa using h
  · have hcl : ∀ j, j < zs.length → (w.cell? ⟨A, o + j, none⟩).isSome = true := fun j hj => by
      rw [h.cell (o + j) (l[o + j]'(by omega)) (by simp [show o + j < l.length by omega])]; rfl
    have hW : Wrote A o zs.length w (w.setCells A o (zs.map (fun z => Value.int .u8 z))) := wrote_setCells A _ o _ o w w (Wrote.refl _ _ _ _) (Nat.le_refl _) (by simp)
    refine ⟨_, _, run_copy_cells w _ _ ty 5 A o dl dc x zs.length c (zs.map (fun z => Value.int .u8 z)) Tryd.underlying81 hinf ((List.length_map _).trans (Nat.min_eq_left hm).symm) ?_ (by simpa using hcl) (fun j _ => h.typed.open _) (by simp [Value.oneCell']), ⟨?_, ?_, h.typed.wrote hW⟩, hW⟩
    · intro j v hj
      rw [List.getElem?_map] at hj
      cases hz : zs[j]? with
      | none => simp [hz] at hj
      | some z => simp [hz] at hj; subst hj; exact hx j z hz
    · simp; omega
    · intro j z hj
      by_cases h1 : j < o
      · rw [hW.cell j (Or.inl h1)]
        refine h.cell j z ?_
        rw [← hj, List.append_assoc, List.getElem?_append_left (by simp; omega)]
        simp [h1]
      · by_cases h2 : j < o + zs.length
        · have := World.cell?_setCells_in A (zs.map (fun z => Value.int .u8 z)) o w (by simpa using hcl) (j - o) (by simp; omega)
          rw [show o + (j - o) = j by omega] at this
          rw [this]
          rw [List.getElem?_append_left (by simp; omega), List.getElem?_append_right (by simp; omega)] at hj
          simp only [List.length_take, show min o l.length = o by omega] at hj
          simp [List.getElem?_eq_some_iff] at hj ⊢
          obtain ⟨_, hj⟩ := hj
          exact hj
        · rw [hW.cell j (Or.inr (by omega))]
          refine h.cell j z ?_
          have e : o + zs.length + (j - (l.take o ++ zs).length) = j := by simp only [List.length_append, List.length_take]; omega
          rw [← hj, List.getElem?_append_right (by simp; omega), List.getElem?_drop, e]

end Go.Proofs.YtlpbffcijhgelaaDoor
