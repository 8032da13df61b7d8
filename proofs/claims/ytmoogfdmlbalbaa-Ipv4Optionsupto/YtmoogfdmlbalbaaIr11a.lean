/-
  The document's reader of IPv4 datagrams: where bytes are a datagram.
-/
import Derived.Test.YtmoogfdmlbalbaaIu1
import Derived.Test.YtmoogfdmlbalbaaIh
namespace Go.Proofs.Ytmoogfdmlbalbaa
open Go Go.RowKit
set_option linter.unusedVariables false
set_option linter.unusedSimpArgs false

/-- The answer's box and the datagram's. -/
structure TwoW (w W : World) (Q V : Nat) (c : List Value) : Prop where
  qb : W.heap[Q]? = some (.cells zeroC.toArray 27)
  vb : W.heap[V]? = some (.cells c.toArray 27)
  up : w.heap.size ≤ Q
  lt : Q < V
  bel : Below w.heap.size w W
section
variable {w W W' : World} {Q V : Nat} {c : List Value}
theorem TwoW.on (h : TwoW w W Q V c) (hb : Below W.heap.size W W') : TwoW w W' Q V c := ⟨blk_on h.qb hb, blk_on h.vb hb, h.up, h.lt, h.bel.trans (hb.mono h.bel.size)⟩
theorem TwoW.drew (h : TwoW w W Q V c) : TwoW w W.drew Q V c := ⟨h.qb, h.vb, h.up, h.lt, h.bel.drew⟩
theorem TwoW.put (h : TwoW w W Q V c) (j : Nat) (v : Value) : TwoW w (W.setCell ⟨V, j, none⟩ v) Q V (c.set j v) := by
  have := h.lt
  have := h.up
  exact ⟨blk_set_other h.qb (by omega) _ _, blk_set h.vb j v, h.up, h.lt, h.bel.setCell (by simp; omega) _⟩
theorem TwoW.sets (h : TwoW w W Q V c) (p : Nat) (vs : List Value) : TwoW w (W.setCells V p vs) Q V (setsL c p vs) := by
  have hO : Only V W (W.setCells V p vs) := Only.sets _ _ _ (Only.refl _ _)
  have := h.lt
  have := h.up
  exact ⟨(hO.other Q (by omega)).trans h.qb, blk_sets _ _ _ _ h.vb, h.up, h.lt, h.bel.trans (hO.below (by omega))⟩
theorem TwoW.copy (h : TwoW w W Q V c) (hc : c.length = 17) {v : Value} {ys : List Int} (hb : BytesAt w.heap.size w v ys) (p k : Nat) (hp : p + ys.length ≤ 17) (ty : TypeId) :
    ∃ r w2, (Builtin.copy_ #[25, 25] ty #[.slice (some ⟨V, p, none⟩) ys.length k, v]).run Try.prog W = .ok r w2 ∧ TwoW w w2 Q V (setsL c p (ys.map (fun z => Value.int .u8 z))) := by
  have hinf : (Try.prog.info? 5).map (·.size) = some 1 := by kernel_rfl
  obtain ⟨hf, hlen, a, cap', rfl, hz⟩ := hb
  rcases hz with h0 | ⟨sb, so, rfl, hlt, hcl⟩
  · obtain rfl : ys = [] := List.length_eq_zero_iff.1 h0
    exact ⟨_, W, run_copy_none W _ _ ty 5 _ a 0 k 0 cap' Try.underlying25 hinf (by simp), h⟩
  · have hs : ∀ j, j < ys.length → (W.cell? ⟨V, p + j, none⟩).isSome = true := fun j hj => by
      have : p + j < c.length := by omega
      simp [World.cell?, h.vb, this]
    refine ⟨_, _, run_copy_cells W _ _ ty 5 V p ys.length k ⟨sb, so, none⟩ ys.length cap' (ys.map (fun z => Value.int .u8 z)) Try.underlying25 hinf (by simp) ?_ (by simpa using hs) (fun j _ => blk_open h.vb _) (by simp [Value.oneCell']), h.sets p _⟩
    intro j x hj
    rw [Go.WideShapes.add_plain]
    rw [List.getElem?_map] at hj
    cases hz : ys[j]? with
    | none => simp [hz] at hj
    | some z =>
      simp [hz] at hj
      subst hj
      have := hcl j (List.getElem?_eq_some_iff.1 hz).1
      rw [hz] at this
      exact (h.bel.cell (p := ⟨sb, so + j, none⟩) hlt).trans this
end
theorem TwoW.start {w W : World} {Q : Nat} (h : OneW w W Q) (c : List Value) : TwoW w (W.alloc (.cells c.toArray 27)).drew Q W.heap.size c :=
  ⟨blk_alloc h.qb _, blk_new W _, h.up, (Array.getElem?_eq_some_iff.1 h.qb).1, (h.bel.alloc h.bel.size _).drew⟩

theorem alloc_wp {o : Oper} {a : Act} {w : World} {K : Act → World → Prop} {Q : Exit → Act → World → Prop} (hop : o.op = Op.alloc 27) (hK : K (a.put o.dst (.pointer (some ⟨w.heap.size, 0, none⟩))) (w.alloc (.cells zeroC.toArray 27))) : o.wp Try.prog a w K Q := by
  unfold Oper.wp
  simp [execOp, hop, go_sem]
  exact hK
theorem store_wp {P : Program} {o : Oper} {a : Act} {w w2 : World} {K : Act → World → Prop} {Q : Exit → Act → World → Prop} (p x : Operand) (t : TypeId) (hop : o.op = Op.store t p x) {vp vx : Value} (hp : a.eval p = vp) (hx : a.eval x = vx) (hrun : (Instr.storeAt t vp vx).run P w = .ok () w2) (hK : K (a.put o.dst (.tuple #[])) w2) : o.wp P a w K Q := by
  unfold Oper.wp
  simp [execOp, hop, hp, hx, hrun, Result.andThen]
  exact hK
theorem arm_slice {P : Program} {w : World} {ops : Array Oper} {rest : List Oper} {o : Oper} {a : Act} {Q : Exit → Act → World → Prop} (hg : Region.wanted o (yielded ops a.tmps) = true) (t : TypeId) (x : Operand) (lo hi : Option Operand)
    (hop : o.op = Op.slice t x lo hi none) {vx : Value} {vlo vhi : Option Value} (hx : a.eval x = vx) (hlo : lo.map a.eval = vlo) (hhi : hi.map a.eval = vhi) {v : Value} (hrun : (Instr.sliceAt t vx vlo vhi none).run P w = .ok v w) (hK : wpList P ops Q rest (a.put o.dst v) w) : wpList P ops Q (o :: rest) a w := by
  refine BigFrame.wpList_want hg fun K hK' => ?_
  unfold Oper.wp
  simp [execOp, hop, hx, hlo, hhi, hrun, Result.andThen]
  exact hK' _ _ hK
theorem slice_mid (b off len cap hd : Nat) (w : World) (h1 : 20 ≤ hd) (h2 : hd ≤ len) (h3 : len ≤ cap) :
    (Instr.sliceAt 25 (.slice (some ⟨b, off, none⟩) len cap) (some (.int .i64 20)) (some (.int .i64 hd)) none).run Try.prog w = .ok (.slice (some ⟨b, nxt off cap 20, none⟩) (hd - 20) (cap - 20)) w := by
  unfold nxt
  by_cases h : cap = 20
  · subst h
    obtain rfl : hd = 20 := by omega
    go_simp
  · go_simp
    rw [if_pos (by omega), if_pos (by omega)]
theorem slice_end (b off len cap hd : Nat) (w : World) (h2 : hd ≤ len) (h3 : len ≤ cap) :
    (Instr.sliceAt 25 (.slice (some ⟨b, off, none⟩) len cap) (some (.int .i64 hd)) none none).run Try.prog w = .ok (.slice (some ⟨b, nxt off cap hd, none⟩) (len - hd) (cap - hd)) w := by
  unfold nxt
  by_cases h : cap = hd
  · subst h
    obtain rfl : len = cap := by omega
    go_simp
  · have h' : ¬ hd = cap := fun e => h e.symm
    go_simp

end Go.Proofs.Ytmoogfdmlbalbaa
