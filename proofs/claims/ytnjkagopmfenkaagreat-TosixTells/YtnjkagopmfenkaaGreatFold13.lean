/-
  The document's reader of IPv4 datagrams: where bytes are a datagram.
  What the document's reader answers; the walk of the statement Ipv4Parses.
  Bytes as argument, with their room.
  A region that draws its order and copies two rows of bytes: whatever the order.
-/
import Derived.Test.YtnjkagopmfenkaaGreatFold04
import Derived.Test.YtnjkagopmfenkaaGreatFold12
import Derived.Test.YtnjkagopmfenkaaGreatFold06
namespace Go.Proofs.YtnjkagopmfenkaaGreat.V4
open Go Go.RowKit
set_option linter.unusedVariables false
set_option linter.unusedSimpArgs false

/-- The answer's box and the datagram's. -/
structure TwoW (w W : World) (Q V : Nat) (c : List Value) : Prop where
  qb : W.heap[Q]? = some (.cells zeroC.toArray 27)
  vb : W.heap[V]? = some (.cells c.toArray 27)
  up : w.heap.size ≤ Q
  lt : Q < V
  bel : Below w.heap.size w W
section
variable {w W W' : World} {Q V : Nat} {c : List Value}
theorem TwoW.on (h : TwoW w W Q V c) (hb : Below W.heap.size W W') : TwoW w W' Q V c := ⟨blk_on h.qb hb, blk_on h.vb hb, h.up, h.lt, h.bel.trans (hb.mono h.bel.size)⟩
theorem TwoW.drew (h : TwoW w W Q V c) : TwoW w W.drew Q V c := ⟨h.qb, h.vb, h.up, h.lt, h.bel.drew⟩
theorem TwoW.put (h : TwoW w W Q V c) (j : Nat) (v : Value) : TwoW w (W.setCell ⟨V, j, none⟩ v) Q V (c.set j v) := by
  have := h.lt
  have := h.up
  exact ⟨blk_set_other h.qb (by omega) _ _, blk_set h.vb j v, h.up, h.lt, h.bel.setCell (by simp; omega) _⟩
theorem TwoW.sets (h : TwoW w W Q V c) (p : Nat) (vs : List Value) : TwoW w (W.setCells V p vs) Q V (setsL c p vs) := by
  have hO : Only V W (W.setCells V p vs) := Only.sets _ _ _ (Only.refl _ _)
  have := h.lt
  have := h.up
  exact ⟨(hO.other Q (by omega)).trans h.qb, blk_sets _ _ _ _ h.vb, h.up, h.lt, h.bel.trans (hO.below (by omega))⟩
theorem TwoW.copy (h : TwoW w W Q V c) (hc : c.length = 17) {v : Value} {ys : List Int} (hb : BytesAt w.heap.size w v ys) (p k : Nat) (hp : p + ys.length ≤ 17) (ty : TypeId) :
    ∃ r w2, (Builtin.copy_ #[25, 25] ty #[.slice (some ⟨V, p, none⟩) ys.length k, v]).run Tryz.prog W = .ok r w2 ∧ TwoW w w2 Q V (setsL c p (ys.map (fun z => Value.int .u8 z))) := by
  have hinf : (Tryz.prog.info? 5).map (·.size) = some 1 := by kernel_rfl
  obtain ⟨hf, hlen, a, cap', rfl, hz⟩ := hb
  rcases hz with h0 | ⟨sb, so, rfl, hlt, hcl⟩
  · obtain rfl : ys = [] := List.length_eq_zero_iff.1 h0
    exact ⟨_, W, run_copy_none W _ _ ty 5 _ a 0 k 0 cap' Tryz.underlying25 hinf (by simp), h⟩
  · have hs : ∀ j, j < ys.length → (W.cell? ⟨V, p + j, none⟩).isSome = true := fun j hj => by
      have : p + j < c.length := by omega
      simp [World.cell?, h.vb, this]
    refine ⟨_, _, run_copy_cells W _ _ ty 5 V p ys.length k ⟨sb, so, none⟩ ys.length cap' (ys.map (fun z => Value.int .u8 z)) Tryz.underlying25 hinf (by simp) ?_ (by simpa using hs) (fun j _ => blk_open h.vb _) (by simp [Value.oneCell']), h.sets p _⟩
    intro j x hj
    rw [Go.WideShapes.add_plain]
    rw [List.getElem?_map] at hj
    cases hz : ys[j]? with
    | none => simp [hz] at hj
    | some z =>
      simp [hz] at hj
      subst hj
      have := hcl j (List.getElem?_eq_some_iff.1 hz).1
      rw [hz] at this
      exact (h.bel.cell (p := ⟨sb, so + j, none⟩) hlt).trans this
end
theorem TwoW.start {w W : World} {Q : Nat} (h : OneW w W Q) (c : List Value) : TwoW w (W.alloc (.cells c.toArray 27)).drew Q W.heap.size c :=
  ⟨blk_alloc h.qb _, blk_new W _, h.up, (Array.getElem?_eq_some_iff.1 h.qb).1, (h.bel.alloc h.bel.size _).drew⟩

theorem alloc_wp {o : Oper} {a : Act} {w : World} {K : Act → World → Prop} {Q : Exit → Act → World → Prop} (hop : o.op = Op.alloc 27) (hK : K (a.put o.dst (.pointer (some ⟨w.heap.size, 0, none⟩))) (w.alloc (.cells zeroC.toArray 27))) : o.wp Tryz.prog a w K Q := by
  unfold Oper.wp
  simp [execOp, hop, go_sem]
  exact hK
theorem slice_mid (b off len cap hd : Nat) (w : World) (h1 : 20 ≤ hd) (h2 : hd ≤ len) (h3 : len ≤ cap) :
    (Instr.sliceAt 25 (.slice (some ⟨b, off, none⟩) len cap) (some (.int .i64 20)) (some (.int .i64 hd)) none).run Tryz.prog w = .ok (.slice (some ⟨b, nxt off cap 20, none⟩) (hd - 20) (cap - 20)) w := by
  unfold nxt
  by_cases h : cap = 20
  · subst h
    obtain rfl : hd = 20 := by omega
    go_simp
  · go_simp
    rw [if_pos (by omega), if_pos (by omega)]
theorem slice_end (b off len cap hd : Nat) (w : World) (h2 : hd ≤ len) (h3 : len ≤ cap) :
    (Instr.sliceAt 25 (.slice (some ⟨b, off, none⟩) len cap) (some (.int .i64 hd)) none none).run Tryz.prog w = .ok (.slice (some ⟨b, nxt off cap hd, none⟩) (len - hd) (cap - hd)) w := by
  unfold nxt
  by_cases h : cap = hd
  · subst h
    obtain rfl : len = cap := by omega
    go_simp
  · have h' : ¬ hd = cap := fun e => h e.symm
    go_simp

end Go.Proofs.YtnjkagopmfenkaaGreat.V4

namespace Go.Proofs.YtnjkagopmfenkaaGreat.V4
open Go Go.RowKit Go.ChangeShapes Go.WideShapes Go.ChangeAt
set_option linter.unusedVariables false
set_option linter.unusedSimpArgs false

/-- What the document's reader answers. -/
def RReads (f : FuncId) (xs : Array Value) (zs : List Int) (part : Bool) (w : World) : Prop :=
  Calls Tryz.prog f xs w fun e w' => ∃ c', e = .returned (.tuple #[.agg c'.toArray, .int .i64 (pErr zs part).1, .int .i64 (pErr zs part).2]) ∧ ParD zs part w' c' ∧ Apart w.heap.size c' ∧ Below w.heap.size w w'
theorem RReads.no {f : FuncId} {xs : Array Value} {zs : List Int} {part : Bool} {w : World} {at' er : Int} (he : pErr zs part = (at', er)) (hn : er ≠ 0)
    (h : Calls Tryz.prog f xs w fun e w' => e = .returned (.tuple #[.agg zeroC.toArray, .int .i64 at', .int .i64 er]) ∧ Below w.heap.size w w') : RReads f xs zs part w := by
  unfold RReads
  refine h.mono ?_
  rintro e w' ⟨rfl, hb⟩
  refine ⟨zeroC, by rw [he], ParD.no ?_ w', zero_apart _, hb⟩
  rw [he]
  intro c
  injection c with _ c2
  exact hn c2
theorem RReads.yes {f : FuncId} {xs : Array Value} {zs : List Int} {part : Bool} {w : World} (he : pErr zs part = (0, 0))
    (h : Calls Tryz.prog f xs w fun e w' => ∃ c', e = .returned (.tuple #[.agg c'.toArray, .int .i64 0, .int .i64 0]) ∧ SaysD zs w' c' ∧ Apart w.heap.size c' ∧ Below w.heap.size w w') : RReads f xs zs part w := by
  unfold RReads
  refine h.mono ?_
  rintro e w' ⟨c', rfl, hd, hA, hb⟩
  exact ⟨c', by rw [he], ParD.yes he hd, hA, hb⟩


end Go.Proofs.YtnjkagopmfenkaaGreat.V4

namespace Go.Proofs.YtnjkagopmfenkaaGreat.V4
open Go Go.RowKit Go.ChangeShapes Go.WideShapes Go.ChangeAt
set_option linter.unusedVariables false
set_option linter.unusedSimpArgs false

end Go.Proofs.YtnjkagopmfenkaaGreat.V4

namespace Go.Proofs.YtnjkagopmfenkaaGreat.V4
open Go Go.RowKit
set_option linter.unusedVariables false
set_option linter.unusedSimpArgs false

abbrev own12 : List Oper := [{ dst := some 58, op := Op.buildSlice 25 0 #[], type := 25, pos := "law.go:128", after := #[], guard := none },
  { dst := some 59, op := Op.fieldAddr 27 (Operand.tmp 2) 9, type := 0, pos := "law.go:128", after := #[], guard := none },
  { dst := some 60, op := Op.load 25 (Operand.tmp 59), type := 25, pos := "law.go:128", after := #[{ on := 1, ground := Ground.data }], guard := none },
  { dst := some 61, op := Op.call { callee := Callee.builtin Builtin.append, args := #[Operand.tmp 58, Operand.tmp 60], argTypes := #[25, 25] }, type := 25, pos := "law.go:128", after := #[{ on := 0, ground := Ground.data }, { on := 2, ground := Ground.data }], guard := none },
  { dst := some 62, op := Op.buildSlice 25 0 #[], type := 25, pos := "law.go:128", after := #[], guard := none },
  { dst := some 63, op := Op.fieldAddr 27 (Operand.tmp 2) 10, type := 0, pos := "law.go:128", after := #[], guard := none },
  { dst := some 64, op := Op.load 25 (Operand.tmp 63), type := 25, pos := "law.go:128", after := #[{ on := 5, ground := Ground.data }], guard := none },
  { dst := some 65, op := Op.call { callee := Callee.builtin Builtin.append, args := #[Operand.tmp 62, Operand.tmp 64], argTypes := #[25, 25] }, type := 25, pos := "law.go:128", after := #[{ on := 4, ground := Ground.data }, { on := 6, ground := Ground.data }, { on := 3, ground := Ground.chain }], guard := none },
  { dst := some 66, op := Op.fieldAddr 27 (Operand.tmp 13) 9, type := 0, pos := "law.go:128", after := #[{ on := 0, ground := Ground.phase }, { on := 1, ground := Ground.phase }, { on := 2, ground := Ground.phase }, { on := 3, ground := Ground.phase }, { on := 4, ground := Ground.textOnly Departure.lateStores }, { on := 5, ground := Ground.textOnly Departure.lateStores }, { on := 6, ground := Ground.textOnly Departure.lateStores }, { on := 7, ground := Ground.textOnly Departure.lateStoresUnsure }], guard := none },
  { dst := none, op := Op.store 25 (Operand.tmp 66) (Operand.tmp 61), type := 0, pos := "law.go:128", after := #[{ on := 8, ground := Ground.data }, { on := 3, ground := Ground.data }, { on := 7, ground := Ground.chain }, { on := 0, ground := Ground.phase }, { on := 1, ground := Ground.phase }, { on := 2, ground := Ground.phase }, { on := 3, ground := Ground.phase }, { on := 4, ground := Ground.textOnly Departure.lateStores }, { on := 5, ground := Ground.textOnly Departure.lateStores }, { on := 6, ground := Ground.textOnly Departure.lateStores }, { on := 7, ground := Ground.textOnly Departure.lateStoresUnsure }], guard := none },
  { dst := some 67, op := Op.fieldAddr 27 (Operand.tmp 13) 10, type := 0, pos := "law.go:128", after := #[{ on := 0, ground := Ground.phase }, { on := 1, ground := Ground.phase }, { on := 2, ground := Ground.phase }, { on := 3, ground := Ground.phase }, { on := 4, ground := Ground.phase }, { on := 5, ground := Ground.phase }, { on := 6, ground := Ground.phase }, { on := 7, ground := Ground.phase }, { on := 8, ground := Ground.phase }, { on := 9, ground := Ground.phase }], guard := none },
  { dst := none, op := Op.store 25 (Operand.tmp 67) (Operand.tmp 65), type := 0, pos := "law.go:128", after := #[{ on := 10, ground := Ground.data }, { on := 7, ground := Ground.data }, { on := 9, ground := Ground.chain }, { on := 0, ground := Ground.phase }, { on := 1, ground := Ground.phase }, { on := 2, ground := Ground.phase }, { on := 3, ground := Ground.phase }, { on := 4, ground := Ground.phase }, { on := 5, ground := Ground.phase }, { on := 6, ground := Ground.phase }, { on := 7, ground := Ground.phase }, { on := 8, ground := Ground.phase }, { on := 9, ground := Ground.phase }], guard := none }]

theorem ex_field {o : Oper} {a : Act} {W : World} (k : Nat) (i : Nat) {b : Nat} (hop : o.op = Op.fieldAddr 27 (.tmp k) i) (n : Nat) (hk : a.eval (.tmp k) = .pointer (some ⟨b, 0, none⟩)) (hi : (i = 9 ∧ n = 15) ∨ (i = 10 ∧ n = 16)) :
    (execOp a.eval o).run Tryz.prog W = .ok (.value (.pointer (some ⟨b, n, none⟩))) W := by
  generalize a.eval = ev at *
  rcases hi with ⟨rfl, rfl⟩ | ⟨rfl, rfl⟩ <;> simp [execOp, hop, hk, go_sem]
abbrev S12 (Vb : Nat) (so sb : Value) (W : World) : Prop := W.cell? ⟨Vb, 15, none⟩ = some so ∧ W.cell? ⟨Vb, 16, none⟩ = some sb
theorem fin12 {Q : Exit → Act → World → Prop} {listed : Array Bool} (hl : listed = #[true, true, true, true, true, true, true, true, true, false, false, false]) {A : Act} {W : World} {Vb Xb : Nat} {so sb s1 s2 : Value} (h66 : A.eval (.tmp 66) = .pointer (some ⟨Xb, 15, none⟩)) (h61 : A.eval (.tmp 61) = s1) (h65 : A.eval (.tmp 65) = s2) (h13 : A.eval (.tmp 13) = .pointer (some ⟨Xb, 0, none⟩)) (hsz : 68 ≤ A.tmps.size) (hs1 : ∃ x n m, s1 = .slice x n m) (hs2 : ∃ x n m, s2 = .slice x n m) (hne : Vb ≠ Xb)
    (hx15 : (W.cell? ⟨Xb, 15, none⟩).isSome = true) (hx16 : (W.cell? ⟨Xb, 16, none⟩).isSome = true) (hf : ∀ i, W.frozen? ⟨Xb, i, none⟩ = false) (hQ : ∀ c (a : Act) d v w, Q (.panic c) (a.put d v) w → Q (.panic c) a w) (hS : S12 Vb so sb W)
    (hK : Q .normal (A.put (some 67) (.pointer (some ⟨Xb, 16, none⟩))) ((W.setCell ⟨Xb, 15, none⟩ s1).setCell ⟨Xb, 16, none⟩ s2)) : wpAnyH Tryz.prog .any own12.toArray Q (S12 Vb so sb) 3 listed A W := by
  subst hl
  have sS : ∀ (W : World) (i : Nat) (v : Value), S12 Vb so sb W → S12 Vb so sb (W.setCell ⟨Xb, i, none⟩ v) := fun W i v h => by
    unfold S12 at *
    rw [World.cell?_setCell_other _ _ _ _ (by intro c; injection c; omega), World.cell?_setCell_other _ _ _ _ (by intro c; injection c; omega)]
    exact h
  have hf2 : ∀ i v, (W.setCell ⟨Xb, 15, none⟩ v).frozen? ⟨Xb, i, none⟩ = false := fun i v => by rw [World.frozen?_setCell]; exact hf i
  refine all_one (i := 9) (by kernel_rfl) rfl rfl ?_
  refine wp_store 66 61 rfl rfl h66 h61 hs1 hx15 (hf _) ⟨sS _ _ _ hS, ?_⟩
  refine take_one (i := 10) (d := some 67) (v := .pointer (some ⟨Xb, 16, none⟩)) rfl rfl rfl (by kernel_rfl) (by kernel_rfl) (by kernel_rfl) hQ (fun W _ => ex_field 13 10 rfl 16 h13 (.inr ⟨rfl, rfl⟩)) (sS _ _ _ hS) ?_
  refine all_one (i := 11) (by kernel_rfl) rfl rfl ?_
  refine wp_store 67 65 rfl rfl (ev_same _ _ _ (by omega)) ((ev_other _ _ _ _ (by decide)).trans h65) hs2 (by rw [World.cell?_setCell_other _ _ _ _ (by intro c; injection c; omega)]; exact hx16) (hf2 _ _) ⟨sS _ _ _ (sS _ _ _ hS), ?_⟩
  exact wpAnyH_done (by kernel_rfl) hK _

set_option maxRecDepth 10000 in
theorem region12 {Q : Exit → Act → World → Prop} {a : Act} {w : World} {Vb Xb : Nat} {so sb : Value} {opts body : List Int} (hsz : 68 ≤ a.tmps.size) (e2 : a.eval (.tmp 2) = .pointer (some ⟨Vb, 0, none⟩)) (e13 : a.eval (.tmp 13) = .pointer (some ⟨Xb, 0, none⟩)) (hV : Vb < w.heap.size) (hX : Xb < w.heap.size) (hne : Vb ≠ Xb)
    (v15 : w.cell? ⟨Vb, 15, none⟩ = some so) (v16 : w.cell? ⟨Vb, 16, none⟩ = some sb) (x15 : (w.cell? ⟨Xb, 15, none⟩).isSome = true) (x16 : (w.cell? ⟨Xb, 16, none⟩).isSome = true) (xf : ∃ cs t, w.heap[Xb]? = some (.cells cs t (0, 0))) (ho : BytesAt w.heap.size w so opts) (hb : BytesAt w.heap.size w sb body) (hQ : ∀ c (a : Act) d v w, Q (.panic c) (a.put d v) w → Q (.panic c) a w)
    (hK : ∀ v58 v62 b1 k1 b2 k2 W, Below w.heap.size w W → CopyAt w.heap.size W b1 k1 opts → CopyAt w.heap.size W b2 k2 body →
      Q .normal ((((((((((a.put (some 59) (.pointer (some ⟨Vb, 15, none⟩))).put (some 60) so).put (some 63) (.pointer (some ⟨Vb, 16, none⟩))).put (some 64) sb).put (some 58) v58).put (some 62) v62).put (some 61) (.slice (some ⟨b1, 0, none⟩) opts.length k1)).put (some 66) (.pointer (some ⟨Xb, 15, none⟩))).put (some 65) (.slice (some ⟨b2, 0, none⟩) body.length k2)).put (some 67) (.pointer (some ⟨Xb, 16, none⟩)))
        ((W.setCell ⟨Xb, 15, none⟩ (.slice (some ⟨b1, 0, none⟩) opts.length k1)).setCell ⟨Xb, 16, none⟩ (.slice (some ⟨b2, 0, none⟩) body.length k2))) :
    (Code.region 12 own12.toArray true).wp Tryz.prog Q a w := by
  refine wp_region_held (S := S12 Vb so sb) (by kernel_rfl) ?_
  show wpAnyH Tryz.prog .any own12.toArray Q (S12 Vb so sb) 12 (Array.replicate 12 false) a w.drew
  have hso : ∃ x n m, so = .slice x n m := by obtain ⟨_, _, x, m, e, _⟩ := ho; exact ⟨x, _, m, e⟩
  have hsb : ∃ x n m, sb = .slice x n m := by obtain ⟨_, _, x, m, e, _⟩ := hb; exact ⟨x, _, m, e⟩
  have hS : ∀ W, Below w.heap.size w W → S12 Vb so sb W := fun W hB => ⟨(hB.cell (p := ⟨Vb, 15, none⟩) hV).trans v15, (hB.cell (p := ⟨Vb, 16, none⟩) hV).trans v16⟩
  have hX15 : ∀ W, Below w.heap.size w W → (W.cell? ⟨Xb, 15, none⟩).isSome = true := fun W hB => by rw [hB.cell (p := ⟨Xb, 15, none⟩) hX]; exact x15
  have hX16 : ∀ W, Below w.heap.size w W → (W.cell? ⟨Xb, 16, none⟩).isSome = true := fun W hB => by rw [hB.cell (p := ⟨Xb, 16, none⟩) hX]; exact x16
  have hXf : ∀ W, Below w.heap.size w W → ∀ i, W.frozen? ⟨Xb, i, none⟩ = false := fun W hB i => by
    obtain ⟨cs, t, hc⟩ := xf
    have := (hB.block Xb hX).trans hc
    simp [World.frozen?, this]
  have hd : Below w.heap.size w w.drew := (Below.refl _ w).drew
  have hS0 := hS _ hd
  refine take_one (i := 1) (d := some 59) (v := .pointer (some ⟨Vb, 15, none⟩)) rfl rfl rfl (by kernel_rfl) (by kernel_rfl) (by kernel_rfl) hQ (fun W _ => ex_field 2 9 rfl 15 e2 (.inl ⟨rfl, rfl⟩)) hS0 ?_
  refine take_one (i := 2) (d := some 60) (v := so) rfl rfl rfl (by kernel_rfl) (by kernel_rfl) (by kernel_rfl) hQ (fun W hS => ex_load 59 rfl (ev_same _ _ _ (by omega)) hS.1 hso) hS0 ?_
  refine take_one (i := 5) (d := some 63) (v := .pointer (some ⟨Vb, 16, none⟩)) rfl rfl rfl (by kernel_rfl) (by kernel_rfl) (by kernel_rfl) hQ (fun W _ => ex_field 2 10 rfl 16 (by rw [ev_other _ _ _ _ (by decide), ev_other _ _ _ _ (by decide)]; exact e2) (.inr ⟨rfl, rfl⟩)) hS0 ?_
  refine take_one (i := 6) (d := some 64) (v := sb) rfl rfl rfl (by kernel_rfl) (by kernel_rfl) (by kernel_rfl) hQ (fun W hS => ex_load 63 rfl (ev_same _ _ _ (by simp only [sz_put]; omega)) hS.2 hsb) hS0 ?_
  have f60 : ((((a.put (some 59) (.pointer (some ⟨Vb, 15, none⟩))).put (some 60) so).put (some 63) (.pointer (some ⟨Vb, 16, none⟩))).put (some 64) sb).eval (.tmp 60) = so := by
    rw [ev_other _ _ _ _ (by decide), ev_other _ _ _ _ (by decide), ev_same _ _ _ (by simp only [sz_put]; omega)]
  have f64 : ((((a.put (some 59) (.pointer (some ⟨Vb, 15, none⟩))).put (some 60) so).put (some 63) (.pointer (some ⟨Vb, 16, none⟩))).put (some 64) sb).eval (.tmp 64) = sb := ev_same _ _ _ (by simp only [sz_put]; omega)
  have f13 : ((((a.put (some 59) (.pointer (some ⟨Vb, 15, none⟩))).put (some 60) so).put (some 63) (.pointer (some ⟨Vb, 16, none⟩))).put (some 64) sb).eval (.tmp 13) = .pointer (some ⟨Xb, 0, none⟩) := by
    rw [ev_other _ _ _ _ (by decide), ev_other _ _ _ _ (by decide), ev_other _ _ _ _ (by decide), ev_other _ _ _ _ (by decide)]; exact e13
  have fsz : 68 ≤ ((((a.put (some 59) (.pointer (some ⟨Vb, 15, none⟩))).put (some 60) so).put (some 63) (.pointer (some ⟨Vb, 16, none⟩))).put (some 64) sb).tmps.size := by simp only [sz_put]; exact hsz
  generalize (((a.put (some 59) (.pointer (some ⟨Vb, 15, none⟩))).put (some 60) so).put (some 63) (.pointer (some ⟨Vb, 16, none⟩))).put (some 64) sb = A at *
  clear e2 e13 hsz
  have nw : ∀ W, Below w.heap.size w W → Below w.heap.size w (W.alloc (.cells #[] 5)) := fun W hB => hB.alloc hB.size _
  refine all_two (i1 := 0) (i2 := 4) (by kernel_rfl) rfl rfl rfl rfl ?_ ?_
  · refine wp_build (d := some 58) rfl rfl ⟨hS _ (nw _ hd), ?_⟩
    refine all_two (i1 := 3) (i2 := 4) (by kernel_rfl) rfl rfl rfl rfl ?_ ?_
    · obtain ⟨b1, k1, W1, hr1, hb1, hc1⟩ := copy_run ho (nw _ hd) (B := w.drew.heap.size) (Nat.le_refl _) (by simp <;> omega) 25
      have hB1 := (nw _ hd).trans (hb1.mono (nw _ hd).size)
      refine wp_append (d := some 61) (.tmp 58) (.tmp 60) 25 rfl rfl (ev_same _ _ _ (by omega)) ((ev_other _ _ _ _ (by decide)).trans f60) hr1 ⟨hS _ hB1, ?_⟩
      refine take_one (i := 8) (d := some 66) (v := .pointer (some ⟨Xb, 15, none⟩)) rfl rfl rfl (by kernel_rfl) (by kernel_rfl) (by kernel_rfl) hQ (fun W _ => ex_field 13 9 rfl 15 (by rw [ev_other _ _ _ _ (by decide), ev_other _ _ _ _ (by decide)]; exact f13) (.inl ⟨rfl, rfl⟩)) (hS _ hB1) ?_
      refine all_one (i := 4) (by kernel_rfl) rfl rfl ?_
      refine wp_build (d := some 62) rfl rfl ⟨hS _ (nw _ hB1), ?_⟩
      obtain ⟨b2, k2, W2, hr2, hb2, hc2⟩ := copy_run hb (nw _ hB1) (B := W1.heap.size) hB1.size (by simp) 25
      have hB2 := (nw _ hB1).trans (hb2.mono (nw _ hB1).size)
      refine all_one (i := 7) (by kernel_rfl) rfl rfl ?_
      refine wp_append (d := some 65) (.tmp 62) (.tmp 64) 25 rfl rfl (ev_same _ _ _ (by simp only [sz_put]; omega)) (by rw [ev_other _ _ _ _ (by decide), ev_other _ _ _ _ (by decide), ev_other _ _ _ _ (by decide), ev_other _ _ _ _ (by decide)]; exact f64) hr2 ⟨hS _ hB2, ?_⟩
      rw [put_swap _ 66 62 _ _ (by decide), put_swap _ 61 62 _ _ (by decide)]
      refine fin12 (by kernel_rfl) (by rw [ev_other _ _ _ _ (by decide)]; exact ev_same _ _ _ (by simp only [sz_put]; omega)) (by rw [ev_other _ _ _ _ (by decide), ev_other _ _ _ _ (by decide)]; exact ev_same _ _ _ (by simp only [sz_put]; omega)) (ev_same _ _ _ (by simp only [sz_put]; omega)) (by simp only [ne_eq, reduceCtorEq, not_false_eq_true, ev_other _ 65 13 _ (by decide), ev_other _ 66 13 _ (by decide), ev_other _ 61 13 _ (by decide), ev_other _ 62 13 _ (by decide), ev_other _ 58 13 _ (by decide)]; exact f13) (by simp only [sz_put]; exact fsz) ⟨_, _, _, rfl⟩ ⟨_, _, _, rfl⟩ hne (hX15 _ hB2) (hX16 _ hB2) (hXf _ hB2) hQ (hS _ hB2) ?_
      exact hK _ _ b1 k1 b2 k2 W2 hB2 (hc1.on (((Below.refl _ W1).alloc (Nat.le_refl _) _).trans (hb2.mono (by simp)))) hc2
    · refine wp_build (d := some 62) rfl rfl ⟨hS _ (nw _ (nw _ hd)), ?_⟩
      refine all_one (i := 3) (by kernel_rfl) rfl rfl ?_
      obtain ⟨b1, k1, W1, hr1, hb1, hc1⟩ := copy_run ho (nw _ (nw _ hd)) (B := w.drew.heap.size) (Nat.le_refl _) (by simp <;> omega) 25
      have hB1 := (nw _ (nw _ hd)).trans (hb1.mono (nw _ (nw _ hd)).size)
      refine wp_append (d := some 61) (.tmp 58) (.tmp 60) 25 rfl rfl (by rw [ev_other _ _ _ _ (by decide)]; exact ev_same _ _ _ (by omega)) (by rw [ev_other _ _ _ _ (by decide), ev_other _ _ _ _ (by decide)]; exact f60) hr1 ⟨hS _ hB1, ?_⟩
      refine take_one (i := 8) (d := some 66) (v := .pointer (some ⟨Xb, 15, none⟩)) rfl rfl rfl (by kernel_rfl) (by kernel_rfl) (by kernel_rfl) hQ (fun W _ => ex_field 13 9 rfl 15 (by rw [ev_other _ _ _ _ (by decide), ev_other _ _ _ _ (by decide), ev_other _ _ _ _ (by decide)]; exact f13) (.inl ⟨rfl, rfl⟩)) (hS _ hB1) ?_
      obtain ⟨b2, k2, W2, hr2, hb2, hc2⟩ := copy_run hb hB1 (B := (w.drew.alloc (.cells #[] 5)).heap.size) (nw _ hd).size (Nat.lt_of_lt_of_le (by simp) hb1.size) 25
      have hB2 := hB1.trans (hb2.mono hB1.size)
      refine all_one (i := 7) (by kernel_rfl) rfl rfl ?_
      refine wp_append (d := some 65) (.tmp 62) (.tmp 64) 25 rfl rfl (by rw [ev_other _ _ _ _ (by decide), ev_other _ _ _ _ (by decide)]; exact ev_same _ _ _ (by simp only [sz_put]; omega)) (by rw [ev_other _ _ _ _ (by decide), ev_other _ _ _ _ (by decide), ev_other _ _ _ _ (by decide), ev_other _ _ _ _ (by decide)]; exact f64) hr2 ⟨hS _ hB2, ?_⟩
      refine fin12 (by kernel_rfl) (by rw [ev_other _ _ _ _ (by decide)]; exact ev_same _ _ _ (by simp only [sz_put]; omega)) (by rw [ev_other _ _ _ _ (by decide), ev_other _ _ _ _ (by decide)]; exact ev_same _ _ _ (by simp only [sz_put]; omega)) (ev_same _ _ _ (by simp only [sz_put]; omega)) (by simp only [ne_eq, reduceCtorEq, not_false_eq_true, ev_other _ 65 13 _ (by decide), ev_other _ 66 13 _ (by decide), ev_other _ 61 13 _ (by decide), ev_other _ 62 13 _ (by decide), ev_other _ 58 13 _ (by decide)]; exact f13) (by simp only [sz_put]; exact fsz) ⟨_, _, _, rfl⟩ ⟨_, _, _, rfl⟩ hne (hX15 _ hB2) (hX16 _ hB2) (hXf _ hB2) hQ (hS _ hB2) ?_
      exact hK _ _ b1 k1 b2 k2 W2 hB2 (hc1.on hb2) hc2
  · refine wp_build (d := some 62) rfl rfl ⟨hS _ (nw _ hd), ?_⟩
    refine all_one (i := 0) (by kernel_rfl) rfl rfl ?_
    refine wp_build (d := some 58) rfl rfl ⟨hS _ (nw _ (nw _ hd)), ?_⟩
    refine all_one (i := 3) (by kernel_rfl) rfl rfl ?_
    obtain ⟨b1, k1, W1, hr1, hb1, hc1⟩ := copy_run ho (nw _ (nw _ hd)) (B := (w.drew.alloc (.cells #[] 5)).heap.size) (nw _ hd).size (by simp) 25
    have hB1 := (nw _ (nw _ hd)).trans (hb1.mono (nw _ (nw _ hd)).size)
    refine wp_append (d := some 61) (.tmp 58) (.tmp 60) 25 rfl rfl (ev_same _ _ _ (by simp only [sz_put]; omega)) (by rw [ev_other _ _ _ _ (by decide), ev_other _ _ _ _ (by decide)]; exact f60) hr1 ⟨hS _ hB1, ?_⟩
    refine take_one (i := 8) (d := some 66) (v := .pointer (some ⟨Xb, 15, none⟩)) rfl rfl rfl (by kernel_rfl) (by kernel_rfl) (by kernel_rfl) hQ (fun W _ => ex_field 13 9 rfl 15 (by rw [ev_other _ _ _ _ (by decide), ev_other _ _ _ _ (by decide), ev_other _ _ _ _ (by decide)]; exact f13) (.inl ⟨rfl, rfl⟩)) (hS _ hB1) ?_
    obtain ⟨b2, k2, W2, hr2, hb2, hc2⟩ := copy_run hb hB1 (B := w.drew.heap.size) (Nat.le_refl _) (Nat.lt_of_lt_of_le (by simp <;> omega) hb1.size) 25
    have hB2 := hB1.trans (hb2.mono hB1.size)
    refine all_one (i := 7) (by kernel_rfl) rfl rfl ?_
    refine wp_append (d := some 65) (.tmp 62) (.tmp 64) 25 rfl rfl (by rw [ev_other _ _ _ _ (by decide), ev_other _ _ _ _ (by decide), ev_other _ _ _ _ (by decide)]; exact ev_same _ _ _ (by omega)) (by rw [ev_other _ _ _ _ (by decide), ev_other _ _ _ _ (by decide), ev_other _ _ _ _ (by decide), ev_other _ _ _ _ (by decide)]; exact f64) hr2 ⟨hS _ hB2, ?_⟩
    rw [put_swap _ 62 58 _ _ (by decide)]
    refine fin12 (by kernel_rfl) (by rw [ev_other _ _ _ _ (by decide)]; exact ev_same _ _ _ (by simp only [sz_put]; omega)) (by rw [ev_other _ _ _ _ (by decide), ev_other _ _ _ _ (by decide)]; exact ev_same _ _ _ (by simp only [sz_put]; omega)) (ev_same _ _ _ (by simp only [sz_put]; omega)) (by simp only [ne_eq, reduceCtorEq, not_false_eq_true, ev_other _ 65 13 _ (by decide), ev_other _ 66 13 _ (by decide), ev_other _ 61 13 _ (by decide), ev_other _ 62 13 _ (by decide), ev_other _ 58 13 _ (by decide)]; exact f13) (by simp only [sz_put]; exact fsz) ⟨_, _, _, rfl⟩ ⟨_, _, _, rfl⟩ hne (hX15 _ hB2) (hX16 _ hB2) (hXf _ hB2) hQ (hS _ hB2) ?_
    exact hK _ _ b1 k1 b2 k2 W2 hB2 (hc1.on hb2) hc2

end Go.Proofs.YtnjkagopmfenkaaGreat.V4
