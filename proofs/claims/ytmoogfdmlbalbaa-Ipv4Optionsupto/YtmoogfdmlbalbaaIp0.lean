/-
  A row of bytes of one's own: what is stored and copied into it; what others hold stays.
-/
import Derived.Test.YtmoogfdmlbalbaaAgg
import Derived.Test.YtmoogfdmlbalbaaFoldRef
import Derived.Handy
namespace Go.Proofs.Ytmoogfdmlbalbaa
open Go Go.RowKit
set_option linter.unusedVariables false
set_option linter.unusedSimpArgs false

/-- Bytes that begin block b, which is open. -/
structure OwnG (w : World) (b : Nat) (zs : List Int) : Prop where
  typed : ∃ cs t, w.heap[b]? = some (.cells cs t (0, 0))
  cell : ∀ j, j < zs.length → w.cell? ⟨b, j, none⟩ = some (.int .u8 (zs[j]?.getD 0))
theorem OwnG.open {b : Nat} {w : World} {zs : List Int} (h : OwnG w b zs) (i : Nat) : w.frozen? ⟨b, i, none⟩ = false := by
  obtain ⟨cs, t, hc⟩ := h.typed
  simp [World.frozen?, hc]
theorem OwnG.set {b : Nat} {w : World} {zs : List Int} (h : OwnG w b zs) (j : Nat) (hj : j < zs.length) (z : Int) : OwnG (w.setCell ⟨b, j, none⟩ (.int .u8 z)) b (zs.set j z) := by
  refine ⟨?_, fun i hi => ?_⟩
  · obtain ⟨cs, t, hc⟩ := h.typed
    exact ⟨cs.setIfInBounds j (.int .u8 z), t, by simp [World.setCell, Array.getElem?_modify, hc]⟩
  · by_cases e : i = j
    · subst e
      rw [List.getElem?_set_self hj]
      have := h.cell i hj
      obtain ⟨cs, t, hc⟩ := h.typed
      simp only [World.cell?, hc] at this
      simp only [World.cell?, World.setCell, Array.getElem?_modify, hc]
      have hlt := (Array.getElem?_eq_some_iff.1 this).1
      simp [hlt]
    · rw [List.getElem?_set_ne (by omega), World.cell?_setCell_other _ _ _ _ (by intro c; injection c; omega)]
      exact h.cell i (by simpa using hi)

/-- Nothing but block b is turned. -/
structure Only (b : Nat) (w w' : World) : Prop where
  os : w'.os = w.os
  tape : w'.tape = w.tape
  output : w'.output = w.output
  size : w'.heap.size = w.heap.size
  other : ∀ j, j ≠ b → w'.heap[j]? = w.heap[j]?
theorem Only.refl (b : Nat) (w : World) : Only b w w := ⟨rfl, rfl, rfl, rfl, fun _ _ => rfl⟩
theorem Only.set {b : Nat} {u w : World} (h : Only b u w) (i : Nat) (v : Value) : Only b u (w.setCell ⟨b, i, none⟩ v) :=
  ⟨h.os, h.tape, h.output, by rw [← h.size]; simp [World.setCell], fun j hj => (Below.heap_setCell _ _ _ _ hj).trans (h.other j hj)⟩
theorem Only.drew {b : Nat} {u w : World} (h : Only b u w) : Only b u w.drew := ⟨h.os, h.tape, h.output, h.size, h.other⟩
theorem Only.below {b B : Nat} {u w : World} (h : Only b u w) (hB : B ≤ b) : Below B u w := ⟨h.os, h.tape, h.output, by rw [h.size]; exact Nat.le_refl _, fun j hj => h.other j (by omega)⟩

theorem Only.sets {b : Nat} {u : World} : ∀ (vs : List Value) (o : Nat) (w : World), Only b u w → Only b u (w.setCells b o vs)
  | [], _, _, h => h
  | v :: r, o, w, h => by
    unfold World.setCells
    exact Only.sets r (o + 1) _ (h.set o v)
theorem Only.trans {b : Nat} {u v w : World} (h : Only b u v) (g : Only b v w) : Only b u w :=
  ⟨g.os.trans h.os, g.tape.trans h.tape, g.output.trans h.output, g.size.trans h.size, fun j hj => (g.other j hj).trans (h.other j hj)⟩
theorem OwnG.kept {b : Nat} {u w : World} {zs : List Int} (h : OwnG u b zs) (hb : b < u.heap.size) (hw : Below u.heap.size u w) : OwnG w b zs := by
  obtain ⟨cs, t, hc⟩ := h.typed
  exact ⟨⟨cs, t, (hw.block b hb).trans hc⟩, fun j hj => (hw.cell (p := ⟨b, j, none⟩) hb).trans (h.cell j hj)⟩
theorem OwnG.lt {b : Nat} {w : World} {zs : List Int} (h : OwnG w b zs) : b < w.heap.size := by
  obtain ⟨cs, t, hc⟩ := h.typed
  exact (Array.getElem?_eq_some_iff.1 hc).1
theorem row_typed {b : Nat} : ∀ (vs : List Value) (o : Nat) (w : World), (∃ cs t, w.heap[b]? = some (.cells cs t (0, 0))) → ∃ cs t, (w.setCells b o vs).heap[b]? = some (.cells cs t (0, 0))
  | [], _, _, h => h
  | v :: r, o, w, h => by
    unfold World.setCells
    refine row_typed r (o + 1) _ ?_
    obtain ⟨cs, t, hc⟩ := h
    exact ⟨cs.setIfInBounds o v, t, by simp [World.setCell, Array.getElem?_modify, hc]⟩
/-- A piece of a row, as a slice. -/
theorem OwnG.bytes {b : Nat} {w : World} {zs : List Int} (h : OwnG w b zs) (hf : Fit zs) (hl : zs.length ≤ 140737488351232) (o n cap : Nat) (hn : o + n ≤ zs.length) : BytesAt w.heap.size w (.slice (some ⟨b, o, none⟩) n cap) ((zs.drop o).take n) := by
  have hlen : ((zs.drop o).take n).length = n := by simp; omega
  refine ⟨fun z hz => hf z (List.mem_of_mem_drop (List.mem_of_mem_take hz)), by omega, some ⟨b, o, none⟩, cap, by rw [hlen], .inr ⟨b, o, rfl, h.lt, fun j hj => ?_⟩⟩
  rw [hlen] at hj
  rw [h.cell (o + j) (by omega)]
  simp [List.getElem?_take, hj, List.getElem?_drop]

/-- Bytes that come in copied into the row. -/
theorem OwnG.copy {b n₀ : Nat} {w : World} {zs ys : List Int} {v : Value} (h : OwnG w b zs) (hb : BytesAt n₀ w v ys) (o dl dc : Nat) (ho : o + dl ≤ zs.length) (hy : ys.length ≤ dl) (ty : TypeId) :
    ∃ r w2, (Builtin.copy_ #[25, 25] ty #[.slice (some ⟨b, o, none⟩) dl dc, v]).run Try.prog w = .ok r w2 ∧ OwnG w2 b (zs.take o ++ ys ++ zs.drop (o + ys.length)) ∧ Only b w w2 := by
  have hinf : (Try.prog.info? 5).map (·.size) = some 1 := by kernel_rfl
  obtain ⟨hf, hlen, a, cap, rfl, hz⟩ := hb
  rcases hz with h0 | ⟨sb, so, rfl, hlt, hc⟩
  · obtain rfl : ys = [] := List.length_eq_zero_iff.1 h0
    refine ⟨_, w, run_copy_none w _ _ ty 5 _ a dl dc 0 cap Try.underlying25 hinf (by simp), ?_, Only.refl _ _⟩
    simpa using h
  · have hcl : ∀ j, j < ys.length → (w.cell? ⟨b, o + j, none⟩).isSome = true := fun j hj => by rw [h.cell (o + j) (by omega)]; rfl
    have hO : Only b w (w.setCells b o (ys.map (fun z => Value.int .u8 z))) := Only.sets _ _ _ (Only.refl _ _)
    refine ⟨_, _, run_copy_cells w _ _ ty 5 b o dl dc ⟨sb, so, none⟩ ys.length cap (ys.map (fun z => Value.int .u8 z)) Try.underlying25 hinf ((List.length_map _).trans (Nat.min_eq_left hy).symm) ?_ (by simpa using hcl) (fun j _ => h.open _) (by simp [Value.oneCell']), ⟨?_, ?_⟩, hO⟩
    · intro j x hj
      rw [Go.WideShapes.add_plain]
      rw [List.getElem?_map] at hj
      cases hz : ys[j]? with
      | none => simp [hz] at hj
      | some z =>
        simp [hz] at hj
        subst hj
        have := hc j (List.getElem?_eq_some_iff.1 hz).1
        rw [hz] at this
        exact this
    · obtain ⟨cs, t, hcs⟩ := h.typed
      exact row_typed _ _ _ ⟨cs, t, hcs⟩
    · intro j hj
      have hj' : j < zs.length := by simp at hj; omega
      by_cases h1 : j < o
      · rw [World.cell?_setCells_out b _ o w ⟨b, j, none⟩ (fun _ _ => Or.inl h1), h.cell j hj']
        rw [List.append_assoc, List.getElem?_append_left (by simp; omega)]
        simp [h1]
      · by_cases h2 : j < o + ys.length
        · have := World.cell?_setCells_in b (ys.map (fun z => Value.int .u8 z)) o w (by simpa using hcl) (j - o) (by simp; omega)
          rw [show o + (j - o) = j by omega] at this
          rw [this, List.append_assoc, List.getElem?_append_right (by simp; omega), List.getElem?_append_left (by simp; omega)]
          simp only [List.length_take, Nat.min_eq_left (show o ≤ zs.length by omega), List.getElem_map]
          rw [List.getElem?_eq_getElem (show j - o < ys.length by omega)]
          rfl
        · rw [World.cell?_setCells_out b _ o w ⟨b, j, none⟩ (fun _ _ => Or.inr (by simp; omega)), h.cell j hj']
          rw [List.getElem?_append_right (by simp; omega), List.getElem?_drop]
          have e : o + ys.length + (j - (zs.take o ++ ys).length) = j := by simp; omega
          rw [e]

theorem arm_copy {P : Program} {w : World} {ops : Array Oper} {rest : List Oper} {o : Oper} {a : Act} {Q : Exit → Act → World → Prop} {R : World → Prop} (hg : Region.wanted o (yielded ops a.tmps) = true) (s x : Operand) (t u : TypeId)
    (hop : o.op = Op.call { callee := Callee.builtin Builtin.copy, args := #[s, x], argTypes := #[t, u] }) {vs vx : Value} (hs : a.eval s = vs) (hx : a.eval x = vx)
    (hex : ∃ v w2, (Builtin.copy_ #[t, u] o.type #[vs, vx]).run P w = .ok v w2 ∧ R w2) (hK : ∀ v w2, R w2 → wpList P ops Q rest (a.put o.dst v) w2) : wpList P ops Q (o :: rest) a w := by
  obtain ⟨v, w2, hrun, hr⟩ := hex
  refine BigFrame.wpList_want hg fun K hK' => ?_
  unfold Oper.wp
  simp [execOp, hop, resolve, invoke, builtin, hs, hx, hrun, Result.andThen]
  exact hK' _ _ (hK v w2 hr)

theorem step_copyR {P : Program} {ops : Array Oper} {o : Oper} {a : Act} {w : World} {K : Act → World → Prop} {Q : Exit → Act → World → Prop} {E : Prop} {R : World → Prop} (hg : o.guard = none) (s x : Operand) (t u : TypeId)
    (hop : o.op = Op.call { callee := Callee.builtin Builtin.copy, args := #[s, x], argTypes := #[t, u] }) {vs vx : Value} (hs : a.eval s = vs) (hx : a.eval x = vx)
    (hex : ∃ v w2, (Builtin.copy_ #[t, u] o.type #[vs, vx]).run P w = .ok v w2 ∧ R w2) (hK : ∀ v w2, R w2 → K (a.put o.dst v) w2) :
    if Region.wanted o (yielded ops a.tmps) = true then Oper.wp P o a w K Q else E := by
  have hw : Region.wanted o (yielded ops a.tmps) = true := by simp [Region.wanted, hg]
  rw [if_pos hw]
  obtain ⟨v, w2, hrun, hr⟩ := hex
  unfold Oper.wp
  simp [execOp, hop, resolve, invoke, builtin, hs, hx, hrun, Result.andThen]
  exact hK _ _ hr

end Go.Proofs.Ytmoogfdmlbalbaa
