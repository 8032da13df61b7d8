/-
  A region that draws its order and copies two rows of bytes: whatever the order.
-/
import Derived.Test.YtmoogfdmlbalbaaIr16
import Derived.Test.YtmoogfdmlbalbaaIh
namespace Go.Proofs.Ytmoogfdmlbalbaa
open Go Go.RowKit
set_option linter.unusedVariables false
set_option linter.unusedSimpArgs false

/-- 'append([]byte{}, v...)': a copy of its own, where it lies, and that it is open. -/
theorem bytes_copied3 {w : World} {v : Value} {zs : List Int} (h : BytesAt w.heap.size w v zs) (B : Nat) (ty : TypeId) :
    ∃ b cap w2, (Builtin.append_ #[25, 25] ty #[.slice (some ⟨B, 0, none⟩) 0 0, v]).run Try.prog w = .ok (.slice (some ⟨b, 0, none⟩) zs.length cap) w2 ∧ zs.length ≤ cap ∧ Below w.heap.size w w2 ∧ ((zs = [] ∧ b = B) ∨ (w.heap.size ≤ b ∧ OwnG w2 b zs)) := by
  obtain ⟨i, hi, hz, hs, hb⟩ := info_parts info_u8
  obtain ⟨hf, hl, a, cap, rfl, hv⟩ := h
  have src : ∃ news : List Value, news = zs.map (fun z => Value.int .u8 z) ∧ Src Try.prog i.size 25 (.slice a zs.length cap) zs.length news w := by
    refine ⟨_, rfl, ?_⟩
    rw [hs]
    rcases hv with hv | ⟨b, off, rfl, hlt, hc⟩
    · obtain rfl : zs = [] := List.length_eq_zero_iff.1 hv
      cases a with
      | none => exact Src.ofNil w Try.underlying25 cap
      | some x => exact Src.ofSlice w Try.underlying25 x 0 cap [] rfl (fun j u hj => by simp at hj) (fun u hu => by cases hu)
    · refine Src.ofSlice w Try.underlying25 _ _ cap _ (by simp) (fun j u hj => ?_) (fun u hu => ?_)
      · rw [List.getElem?_map] at hj
        obtain ⟨z, hz, rfl⟩ := Option.map_eq_some_iff.1 hj
        have hjl := (List.getElem?_eq_some_iff.1 hz).1
        have := hc j hjl
        rw [hz] at this
        rw [Go.WideShapes.add_plain]
        exact this
      · obtain ⟨z, _, rfl⟩ := List.mem_map.1 hu
        rfl
  obtain ⟨news, hnews, hsrc⟩ := src
  by_cases h0 : zs.length = 0
  · obtain rfl : zs = [] := List.length_eq_zero_iff.1 h0
    have hr := run_append_room_src w 25 25 ty 5 i Try.underlying25 hi B 0 0 0 _ 0 news hsrc (Nat.le_refl _) (fun j hj => by rw [hnews] at hj; simp at hj) (fun j hj => by rw [hnews] at hj; simp at hj)
    subst hnews
    exact ⟨_, _, _, hr, Nat.le_refl _, Below.refl _ _, .inl ⟨rfl, rfl⟩⟩
  · have hold : (Builtin.firstCells i.size 0 (.slice (some ⟨B, 0, none⟩) 0 0)).run Try.prog w.drew = .ok ([] : List Value).toArray w.drew := by
      exact run_firstCells_some w.drew i.size 0 ⟨B, 0, none⟩ 0 0 [] (by simp) (fun j u hj => by simp at hj)
    have hr := run_append_grow_src w 25 25 ty 5 i (.int .u8 0) Try.underlying25 hi hz (some ⟨B, 0, none⟩) 0 0 [] hold _ zs.length news hsrc (by omega) (by omega) (by
      rw [hb]
      have : Builtin.nextslicecap (0 + zs.length) 0 = zs.length := by
        unfold Builtin.nextslicecap
        simp
        intro e
        rw [e]; rfl
      omega)
    simp only [Nat.zero_add, List.nil_append] at hr
    refine ⟨_, _, _, hr, grownCap_ge _ _ _ _, ((Below.refl _ w).drew).alloc (Nat.le_refl _) _, .inr ⟨Nat.le_refl _, ⟨⟨_, _, blk_new w.drew _⟩, fun j hj => ?_⟩⟩⟩
    have hn := World.alloc_heap_new w.drew (.cells ((news.toArray ++ Builtin.zeroCells (Value.int .u8 0).cells (grownCap w zs.length 0 5 - zs.length))) 5)
    simp only [World.cell?]
    rw [show w.heap.size = w.drew.heap.size from rfl, hn, hnews]
    simp [Array.getElem?_append, hj]

abbrev own12 : List Oper := [{ dst := some 58, op := Op.buildSlice 25 0 #[], type := 25, pos := "law.go:128", after := #[], guard := none },
  { dst := some 59, op := Op.fieldAddr 27 (Operand.tmp 2) 9, type := 0, pos := "law.go:128", after := #[], guard := none },
  { dst := some 60, op := Op.load 25 (Operand.tmp 59), type := 25, pos := "law.go:128", after := #[{ on := 1, ground := Ground.data }], guard := none },
  { dst := some 61, op := Op.call { callee := Callee.builtin Builtin.append, args := #[Operand.tmp 58, Operand.tmp 60], argTypes := #[25, 25] }, type := 25, pos := "law.go:128", after := #[{ on := 0, ground := Ground.data }, { on := 2, ground := Ground.data }], guard := none },
  { dst := some 62, op := Op.buildSlice 25 0 #[], type := 25, pos := "law.go:128", after := #[], guard := none },
  { dst := some 63, op := Op.fieldAddr 27 (Operand.tmp 2) 10, type := 0, pos := "law.go:128", after := #[], guard := none },
  { dst := some 64, op := Op.load 25 (Operand.tmp 63), type := 25, pos := "law.go:128", after := #[{ on := 5, ground := Ground.data }], guard := none },
  { dst := some 65, op := Op.call { callee := Callee.builtin Builtin.append, args := #[Operand.tmp 62, Operand.tmp 64], argTypes := #[25, 25] }, type := 25, pos := "law.go:128", after := #[{ on := 4, ground := Ground.data }, { on := 6, ground := Ground.data }, { on := 3, ground := Ground.chain }], guard := none },
  { dst := some 66, op := Op.fieldAddr 27 (Operand.tmp 13) 9, type := 0, pos := "law.go:128", after := #[{ on := 0, ground := Ground.phase }, { on := 1, ground := Ground.phase }, { on := 2, ground := Ground.phase }, { on := 3, ground := Ground.phase }, { on := 4, ground := Ground.textOnly Departure.lateStores }, { on := 5, ground := Ground.textOnly Departure.lateStores }, { on := 6, ground := Ground.textOnly Departure.lateStores }, { on := 7, ground := Ground.textOnly Departure.lateStoresUnsure }], guard := none },
  { dst := none, op := Op.store 25 (Operand.tmp 66) (Operand.tmp 61), type := 0, pos := "law.go:128", after := #[{ on := 8, ground := Ground.data }, { on := 3, ground := Ground.data }, { on := 7, ground := Ground.chain }, { on := 0, ground := Ground.phase }, { on := 1, ground := Ground.phase }, { on := 2, ground := Ground.phase }, { on := 3, ground := Ground.phase }, { on := 4, ground := Ground.textOnly Departure.lateStores }, { on := 5, ground := Ground.textOnly Departure.lateStores }, { on := 6, ground := Ground.textOnly Departure.lateStores }, { on := 7, ground := Ground.textOnly Departure.lateStoresUnsure }], guard := none },
  { dst := some 67, op := Op.fieldAddr 27 (Operand.tmp 13) 10, type := 0, pos := "law.go:128", after := #[{ on := 0, ground := Ground.phase }, { on := 1, ground := Ground.phase }, { on := 2, ground := Ground.phase }, { on := 3, ground := Ground.phase }, { on := 4, ground := Ground.phase }, { on := 5, ground := Ground.phase }, { on := 6, ground := Ground.phase }, { on := 7, ground := Ground.phase }, { on := 8, ground := Ground.phase }, { on := 9, ground := Ground.phase }], guard := none },
  { dst := none, op := Op.store 25 (Operand.tmp 67) (Operand.tmp 65), type := 0, pos := "law.go:128", after := #[{ on := 10, ground := Ground.data }, { on := 7, ground := Ground.data }, { on := 9, ground := Ground.chain }, { on := 0, ground := Ground.phase }, { on := 1, ground := Ground.phase }, { on := 2, ground := Ground.phase }, { on := 3, ground := Ground.phase }, { on := 4, ground := Ground.phase }, { on := 5, ground := Ground.phase }, { on := 6, ground := Ground.phase }, { on := 7, ground := Ground.phase }, { on := 8, ground := Ground.phase }, { on := 9, ground := Ground.phase }], guard := none }]

theorem ev_same (a : Act) (k : Nat) (v : Value) (h : k < a.tmps.size) : (a.put (some k) v).eval (.tmp k) = v := by
  simp [Act.put, Act.eval, h]
theorem ev_other (a : Act) (k j : Nat) (v : Value) (h : k ≠ j) : (a.put (some k) v).eval (.tmp j) = a.eval (.tmp j) := by
  simp [Act.put, Act.eval, Array.getElem?_setIfInBounds, h]
theorem sz_put (a : Act) (d : Option Nat) (v : Value) : (a.put d v).tmps.size = a.tmps.size := by
  cases d <;> simp [Act.put]

theorem wp_build {o : Oper} {a : Act} {d : Option Nat} {w : World} {K : Act → World → Prop} {Q : Exit → Act → World → Prop} (hop : o.op = Op.buildSlice 25 0 #[]) (hd : o.dst = d) (hK : K (a.put d (.slice (some ⟨w.heap.size, 0, none⟩) 0 0)) (w.alloc (.cells #[] 5))) : o.wp Try.prog a w K Q := by
  subst hd
  unfold Oper.wp
  simp [execOp, hop, go_sem]
  exact hK
theorem wp_append {o : Oper} {a : Act} {d : Option Nat} {w w2 : World} {K : Act → World → Prop} {Q : Exit → Act → World → Prop} (s x : Operand) (t : TypeId) (hop : o.op = Op.call { callee := Callee.builtin Builtin.append, args := #[s, x], argTypes := #[t, t] }) (hd : o.dst = d) {vs vx v : Value} (hs : a.eval s = vs) (hx : a.eval x = vx) (hrun : (Builtin.append_ #[t, t] o.type #[vs, vx]).run Try.prog w = .ok v w2) (hK : K (a.put d v) w2) : o.wp Try.prog a w K Q := by
  subst hd
  unfold Oper.wp
  simp [execOp, hop, resolve, invoke, builtin, hs, hx, hrun, Result.andThen]
  exact hK
theorem wpOp_none {P : Program} {ops : Array Oper} {i : Nat} {o : Oper} {K : Act → World → Prop} {Q : Exit → Act → World → Prop} {a : Act} {w : World} (hi : ops[i]? = some o) (hg : o.guard = none) (h : o.wp P a w K Q) : wpOp P ops Q i K a w := by
  unfold wpOp
  rw [hi]
  simp only
  rw [if_pos (by simp [Region.wanted, hg])]
  exact .inl h
theorem all_one {P : Program} {ops : Array Oper} {Q : Exit → Act → World → Prop} {md : Region.Mode} {S : World → Prop} {i : Nat} {o : Oper} {fuel : Nat} {listed : Array Bool} {a : Act} {w : World} (hr : Region.ready md ops listed = [i]) (hi : ops[i]? = some o) (hg : o.guard = none)
    (h : o.wp P a w (fun a' w' => S w' ∧ wpAnyH P md ops Q S fuel (listed.setIfInBounds i true) a' w') Q) : wpAnyH P md ops Q S (fuel + 1) listed a w := by
  refine wpAnyH_all (rs := [i]) hr (by simp) ?_
  intro j hj
  obtain rfl : j = i := by simpa using hj
  exact wpOp_none hi hg h
theorem all_two {P : Program} {ops : Array Oper} {Q : Exit → Act → World → Prop} {md : Region.Mode} {S : World → Prop} {i1 i2 : Nat} {o1 o2 : Oper} {fuel : Nat} {listed : Array Bool} {a : Act} {w : World} (hr : Region.ready md ops listed = [i1, i2]) (h1 : ops[i1]? = some o1) (g1 : o1.guard = none) (h2 : ops[i2]? = some o2) (g2 : o2.guard = none)
    (k1 : o1.wp P a w (fun a' w' => S w' ∧ wpAnyH P md ops Q S fuel (listed.setIfInBounds i1 true) a' w') Q) (k2 : o2.wp P a w (fun a' w' => S w' ∧ wpAnyH P md ops Q S fuel (listed.setIfInBounds i2 true) a' w') Q) : wpAnyH P md ops Q S (fuel + 1) listed a w := by
  refine wpAnyH_all (rs := [i1, i2]) hr (by simp) ?_
  intro j hj
  simp at hj
  rcases hj with rfl | rfl
  · exact wpOp_none h1 g1 k1
  · exact wpOp_none h2 g2 k2
theorem take_one {d : Option Nat} {P : Program} {ops : Array Oper} {Q : Exit → Act → World → Prop} {md : Region.Mode} {S : World → Prop} {i : Nat} {o : Oper} {v : Value} {fuel : Nat} {listed : Array Bool} {a : Act} {w : World} (hi : ops[i]? = some o) (hg : o.guard = none) (hd : o.dst = d)
    (hs : Region.noSelect ops = true) (hf : Region.free md ops listed i = true) (hr : (Region.ready md ops listed).contains i = true) (hQ : ∀ c (a : Act) d v w, Q (.panic c) (a.put d v) w → Q (.panic c) a w)
    (hy : ∀ w, S w → (execOp a.eval o).run P w = .ok (.value v) w) (hS : S w) (h : wpAnyH P md ops Q S fuel (listed.setIfInBounds i true) (a.put d v) w) : wpAnyH P md ops Q S (fuel + 1) listed a w :=
  wpAnyH_take hi hs hf hr (fun c a w q => hQ c a _ _ w q) (.inl ⟨by simp [Region.wanted, hg], hy⟩) hS (hd ▸ h)

theorem ex_field {o : Oper} {a : Act} {W : World} (k : Nat) (i : Nat) {b : Nat} (hop : o.op = Op.fieldAddr 27 (.tmp k) i) (n : Nat) (hk : a.eval (.tmp k) = .pointer (some ⟨b, 0, none⟩)) (hi : (i = 9 ∧ n = 15) ∨ (i = 10 ∧ n = 16)) :
    (execOp a.eval o).run Try.prog W = .ok (.value (.pointer (some ⟨b, n, none⟩))) W := by
  generalize a.eval = ev at *
  rcases hi with ⟨rfl, rfl⟩ | ⟨rfl, rfl⟩ <;> simp [execOp, hop, hk, go_sem]
theorem ex_load {o : Oper} {a : Act} {W : World} (k : Nat) {p : Addr} {v : Value} (hop : o.op = Op.load 25 (.tmp k)) (hk : a.eval (.tmp k) = .pointer (some p)) (hc : W.cell? p = some v) (hv : ∃ x n m, v = .slice x n m) :
    (execOp a.eval o).run Try.prog W = .ok (.value v) W := by
  obtain ⟨x, n, m, rfl⟩ := hv
  generalize a.eval = ev at *
  simp [execOp, hop, hk, hc, go_sem]
theorem wp_store {o : Oper} {a : Act} {w : World} {K : Act → World → Prop} {Q : Exit → Act → World → Prop} (k j : Nat) {p : Addr} {v : Value} (hop : o.op = Op.store 25 (.tmp k) (.tmp j)) (hd : o.dst = none) (hk : a.eval (.tmp k) = .pointer (some p)) (hj : a.eval (.tmp j) = v) (hv : ∃ x n m, v = .slice x n m) (hc : (w.cell? p).isSome = true) (hf : w.frozen? p = false) (hK : K a (w.setCell p v)) : o.wp Try.prog a w K Q := by
  obtain ⟨x, n, m, rfl⟩ := hv
  obtain ⟨y, hy⟩ := Option.isSome_iff_exists.1 hc
  unfold Oper.wp
  generalize a.eval = ev at *
  simp [execOp, hop, hk, hj, hy, hf, hd, go_sem]
  exact hK

/-- A copy of bytes that lies above an old world. -/
structure CopyAt (B : Nat) (W : World) (b k : Nat) (zs : List Int) : Prop where
  lo : B ≤ b
  lt : b < W.heap.size
  cap : zs.length ≤ k
  own : zs = [] ∨ OwnG W b zs
theorem CopyAt.on {B b k : Nat} {W W' : World} {zs : List Int} (h : CopyAt B W b k zs) (hb : Below W.heap.size W W') : CopyAt B W' b k zs := ⟨h.lo, Nat.lt_of_lt_of_le h.lt hb.size, h.cap, h.own.imp (fun h => h) (fun h => h.kept h.lt hb)⟩
theorem copy_run {w W : World} {v : Value} {zs : List Int} (h : BytesAt w.heap.size w v zs) (hB : Below w.heap.size w W) {B : Nat} (hlo : w.heap.size ≤ B) (hlt : B < W.heap.size) (ty : TypeId) :
    ∃ b k W2, (Builtin.append_ #[25, 25] ty #[.slice (some ⟨B, 0, none⟩) 0 0, v]).run Try.prog W = .ok (.slice (some ⟨b, 0, none⟩) zs.length k) W2 ∧ Below W.heap.size W W2 ∧ CopyAt w.heap.size W2 b k zs := by
  obtain ⟨b, k, W2, hrun, hk, hb, hown⟩ := bytes_copied3 (h.later hB) B ty
  refine ⟨b, k, W2, hrun, hb, ?_, ?_, hk, ?_⟩
  · rcases hown with ⟨_, rfl⟩ | ⟨h1, _⟩
    · exact hlo
    · exact Nat.le_trans hB.size h1
  · rcases hown with ⟨_, rfl⟩ | ⟨_, h1⟩
    · exact Nat.lt_of_lt_of_le hlt hb.size
    · exact h1.lt
  · exact hown.imp (fun h => h.1) (fun h => h.2)

abbrev S12 (Vb : Nat) (so sb : Value) (W : World) : Prop := W.cell? ⟨Vb, 15, none⟩ = some so ∧ W.cell? ⟨Vb, 16, none⟩ = some sb
theorem fin12 {Q : Exit → Act → World → Prop} {listed : Array Bool} (hl : listed = #[true, true, true, true, true, true, true, true, true, false, false, false]) {A : Act} {W : World} {Vb Xb : Nat} {so sb s1 s2 : Value} (h66 : A.eval (.tmp 66) = .pointer (some ⟨Xb, 15, none⟩)) (h61 : A.eval (.tmp 61) = s1) (h65 : A.eval (.tmp 65) = s2) (h13 : A.eval (.tmp 13) = .pointer (some ⟨Xb, 0, none⟩)) (hsz : 68 ≤ A.tmps.size) (hs1 : ∃ x n m, s1 = .slice x n m) (hs2 : ∃ x n m, s2 = .slice x n m) (hne : Vb ≠ Xb)
    (hx15 : (W.cell? ⟨Xb, 15, none⟩).isSome = true) (hx16 : (W.cell? ⟨Xb, 16, none⟩).isSome = true) (hf : ∀ i, W.frozen? ⟨Xb, i, none⟩ = false) (hQ : ∀ c (a : Act) d v w, Q (.panic c) (a.put d v) w → Q (.panic c) a w) (hS : S12 Vb so sb W)
    (hK : Q .normal (A.put (some 67) (.pointer (some ⟨Xb, 16, none⟩))) ((W.setCell ⟨Xb, 15, none⟩ s1).setCell ⟨Xb, 16, none⟩ s2)) : wpAnyH Try.prog .any own12.toArray Q (S12 Vb so sb) 3 listed A W := by
  subst hl
  have sS : ∀ (W : World) (i : Nat) (v : Value), S12 Vb so sb W → S12 Vb so sb (W.setCell ⟨Xb, i, none⟩ v) := fun W i v h => by
    unfold S12 at *
    rw [World.cell?_setCell_other _ _ _ _ (by intro c; injection c; omega), World.cell?_setCell_other _ _ _ _ (by intro c; injection c; omega)]
    exact h
  have hf2 : ∀ i v, (W.setCell ⟨Xb, 15, none⟩ v).frozen? ⟨Xb, i, none⟩ = false := fun i v => by rw [World.frozen?_setCell]; exact hf i
  refine all_one (i := 9) (by kernel_rfl) rfl rfl ?_
  refine wp_store 66 61 rfl rfl h66 h61 hs1 hx15 (hf _) ⟨sS _ _ _ hS, ?_⟩
  refine take_one (i := 10) (d := some 67) (v := .pointer (some ⟨Xb, 16, none⟩)) rfl rfl rfl (by kernel_rfl) (by kernel_rfl) (by kernel_rfl) hQ (fun W _ => ex_field 13 10 rfl 16 h13 (.inr ⟨rfl, rfl⟩)) (sS _ _ _ hS) ?_
  refine all_one (i := 11) (by kernel_rfl) rfl rfl ?_
  refine wp_store 67 65 rfl rfl (ev_same _ _ _ (by omega)) ((ev_other _ _ _ _ (by decide)).trans h65) hs2 (by rw [World.cell?_setCell_other _ _ _ _ (by intro c; injection c; omega)]; exact hx16) (hf2 _ _) ⟨sS _ _ _ (sS _ _ _ hS), ?_⟩
  exact wpAnyH_done (by kernel_rfl) hK _

theorem put_swap (a : Act) (j k : Nat) (v u : Value) (h : j ≠ k) : (a.put (some j) v).put (some k) u = (a.put (some k) u).put (some j) v :=
  Act.put_comm a v u (fun d e e' => by cases e; cases e'; exact h rfl)

set_option maxRecDepth 10000 in
theorem region12 {Q : Exit → Act → World → Prop} {a : Act} {w : World} {Vb Xb : Nat} {so sb : Value} {opts body : List Int} (hsz : 68 ≤ a.tmps.size) (e2 : a.eval (.tmp 2) = .pointer (some ⟨Vb, 0, none⟩)) (e13 : a.eval (.tmp 13) = .pointer (some ⟨Xb, 0, none⟩)) (hV : Vb < w.heap.size) (hX : Xb < w.heap.size) (hne : Vb ≠ Xb)
    (v15 : w.cell? ⟨Vb, 15, none⟩ = some so) (v16 : w.cell? ⟨Vb, 16, none⟩ = some sb) (x15 : (w.cell? ⟨Xb, 15, none⟩).isSome = true) (x16 : (w.cell? ⟨Xb, 16, none⟩).isSome = true) (xf : ∃ cs t, w.heap[Xb]? = some (.cells cs t (0, 0))) (ho : BytesAt w.heap.size w so opts) (hb : BytesAt w.heap.size w sb body) (hQ : ∀ c (a : Act) d v w, Q (.panic c) (a.put d v) w → Q (.panic c) a w)
    (hK : ∀ v58 v62 b1 k1 b2 k2 W, Below w.heap.size w W → CopyAt w.heap.size W b1 k1 opts → CopyAt w.heap.size W b2 k2 body →
      Q .normal ((((((((((a.put (some 59) (.pointer (some ⟨Vb, 15, none⟩))).put (some 60) so).put (some 63) (.pointer (some ⟨Vb, 16, none⟩))).put (some 64) sb).put (some 58) v58).put (some 62) v62).put (some 61) (.slice (some ⟨b1, 0, none⟩) opts.length k1)).put (some 66) (.pointer (some ⟨Xb, 15, none⟩))).put (some 65) (.slice (some ⟨b2, 0, none⟩) body.length k2)).put (some 67) (.pointer (some ⟨Xb, 16, none⟩)))
        ((W.setCell ⟨Xb, 15, none⟩ (.slice (some ⟨b1, 0, none⟩) opts.length k1)).setCell ⟨Xb, 16, none⟩ (.slice (some ⟨b2, 0, none⟩) body.length k2))) :
    (Code.region 12 own12.toArray true).wp Try.prog Q a w := by
  refine wp_region_held (S := S12 Vb so sb) (by kernel_rfl) ?_
  show wpAnyH Try.prog .any own12.toArray Q (S12 Vb so sb) 12 (Array.replicate 12 false) a w.drew
  have hso : ∃ x n m, so = .slice x n m := by obtain ⟨_, _, x, m, e, _⟩ := ho; exact ⟨x, _, m, e⟩
  have hsb : ∃ x n m, sb = .slice x n m := by obtain ⟨_, _, x, m, e, _⟩ := hb; exact ⟨x, _, m, e⟩
  have hS : ∀ W, Below w.heap.size w W → S12 Vb so sb W := fun W hB => ⟨(hB.cell (p := ⟨Vb, 15, none⟩) hV).trans v15, (hB.cell (p := ⟨Vb, 16, none⟩) hV).trans v16⟩
  have hX15 : ∀ W, Below w.heap.size w W → (W.cell? ⟨Xb, 15, none⟩).isSome = true := fun W hB => by rw [hB.cell (p := ⟨Xb, 15, none⟩) hX]; exact x15
  have hX16 : ∀ W, Below w.heap.size w W → (W.cell? ⟨Xb, 16, none⟩).isSome = true := fun W hB => by rw [hB.cell (p := ⟨Xb, 16, none⟩) hX]; exact x16
  have hXf : ∀ W, Below w.heap.size w W → ∀ i, W.frozen? ⟨Xb, i, none⟩ = false := fun W hB i => by
    obtain ⟨cs, t, hc⟩ := xf
    have := (hB.block Xb hX).trans hc
    simp [World.frozen?, this]
  have hd : Below w.heap.size w w.drew := (Below.refl _ w).drew
  have hS0 := hS _ hd
  refine take_one (i := 1) (d := some 59) (v := .pointer (some ⟨Vb, 15, none⟩)) rfl rfl rfl (by kernel_rfl) (by kernel_rfl) (by kernel_rfl) hQ (fun W _ => ex_field 2 9 rfl 15 e2 (.inl ⟨rfl, rfl⟩)) hS0 ?_
  refine take_one (i := 2) (d := some 60) (v := so) rfl rfl rfl (by kernel_rfl) (by kernel_rfl) (by kernel_rfl) hQ (fun W hS => ex_load 59 rfl (ev_same _ _ _ (by omega)) hS.1 hso) hS0 ?_
  refine take_one (i := 5) (d := some 63) (v := .pointer (some ⟨Vb, 16, none⟩)) rfl rfl rfl (by kernel_rfl) (by kernel_rfl) (by kernel_rfl) hQ (fun W _ => ex_field 2 10 rfl 16 (by rw [ev_other _ _ _ _ (by decide), ev_other _ _ _ _ (by decide)]; exact e2) (.inr ⟨rfl, rfl⟩)) hS0 ?_
  refine take_one (i := 6) (d := some 64) (v := sb) rfl rfl rfl (by kernel_rfl) (by kernel_rfl) (by kernel_rfl) hQ (fun W hS => ex_load 63 rfl (ev_same _ _ _ (by simp only [sz_put]; omega)) hS.2 hsb) hS0 ?_
  have f60 : ((((a.put (some 59) (.pointer (some ⟨Vb, 15, none⟩))).put (some 60) so).put (some 63) (.pointer (some ⟨Vb, 16, none⟩))).put (some 64) sb).eval (.tmp 60) = so := by
    rw [ev_other _ _ _ _ (by decide), ev_other _ _ _ _ (by decide), ev_same _ _ _ (by simp only [sz_put]; omega)]
  have f64 : ((((a.put (some 59) (.pointer (some ⟨Vb, 15, none⟩))).put (some 60) so).put (some 63) (.pointer (some ⟨Vb, 16, none⟩))).put (some 64) sb).eval (.tmp 64) = sb := ev_same _ _ _ (by simp only [sz_put]; omega)
  have f13 : ((((a.put (some 59) (.pointer (some ⟨Vb, 15, none⟩))).put (some 60) so).put (some 63) (.pointer (some ⟨Vb, 16, none⟩))).put (some 64) sb).eval (.tmp 13) = .pointer (some ⟨Xb, 0, none⟩) := by
    rw [ev_other _ _ _ _ (by decide), ev_other _ _ _ _ (by decide), ev_other _ _ _ _ (by decide), ev_other _ _ _ _ (by decide)]; exact e13
  have fsz : 68 ≤ ((((a.put (some 59) (.pointer (some ⟨Vb, 15, none⟩))).put (some 60) so).put (some 63) (.pointer (some ⟨Vb, 16, none⟩))).put (some 64) sb).tmps.size := by simp only [sz_put]; exact hsz
  generalize (((a.put (some 59) (.pointer (some ⟨Vb, 15, none⟩))).put (some 60) so).put (some 63) (.pointer (some ⟨Vb, 16, none⟩))).put (some 64) sb = A at *
  clear e2 e13 hsz
  have nw : ∀ W, Below w.heap.size w W → Below w.heap.size w (W.alloc (.cells #[] 5)) := fun W hB => hB.alloc hB.size _
  refine all_two (i1 := 0) (i2 := 4) (by kernel_rfl) rfl rfl rfl rfl ?_ ?_
  · refine wp_build (d := some 58) rfl rfl ⟨hS _ (nw _ hd), ?_⟩
    refine all_two (i1 := 3) (i2 := 4) (by kernel_rfl) rfl rfl rfl rfl ?_ ?_
    · obtain ⟨b1, k1, W1, hr1, hb1, hc1⟩ := copy_run ho (nw _ hd) (B := w.drew.heap.size) (Nat.le_refl _) (by simp <;> omega) 25
      have hB1 := (nw _ hd).trans (hb1.mono (nw _ hd).size)
      refine wp_append (d := some 61) (.tmp 58) (.tmp 60) 25 rfl rfl (ev_same _ _ _ (by omega)) ((ev_other _ _ _ _ (by decide)).trans f60) hr1 ⟨hS _ hB1, ?_⟩
      refine take_one (i := 8) (d := some 66) (v := .pointer (some ⟨Xb, 15, none⟩)) rfl rfl rfl (by kernel_rfl) (by kernel_rfl) (by kernel_rfl) hQ (fun W _ => ex_field 13 9 rfl 15 (by rw [ev_other _ _ _ _ (by decide), ev_other _ _ _ _ (by decide)]; exact f13) (.inl ⟨rfl, rfl⟩)) (hS _ hB1) ?_
      refine all_one (i := 4) (by kernel_rfl) rfl rfl ?_
      refine wp_build (d := some 62) rfl rfl ⟨hS _ (nw _ hB1), ?_⟩
      obtain ⟨b2, k2, W2, hr2, hb2, hc2⟩ := copy_run hb (nw _ hB1) (B := W1.heap.size) hB1.size (by simp) 25
      have hB2 := (nw _ hB1).trans (hb2.mono (nw _ hB1).size)
      refine all_one (i := 7) (by kernel_rfl) rfl rfl ?_
      refine wp_append (d := some 65) (.tmp 62) (.tmp 64) 25 rfl rfl (ev_same _ _ _ (by simp only [sz_put]; omega)) (by rw [ev_other _ _ _ _ (by decide), ev_other _ _ _ _ (by decide), ev_other _ _ _ _ (by decide), ev_other _ _ _ _ (by decide)]; exact f64) hr2 ⟨hS _ hB2, ?_⟩
      rw [put_swap _ 66 62 _ _ (by decide), put_swap _ 61 62 _ _ (by decide)]
      refine fin12 (by kernel_rfl) (by rw [ev_other _ _ _ _ (by decide)]; exact ev_same _ _ _ (by simp only [sz_put]; omega)) (by rw [ev_other _ _ _ _ (by decide), ev_other _ _ _ _ (by decide)]; exact ev_same _ _ _ (by simp only [sz_put]; omega)) (ev_same _ _ _ (by simp only [sz_put]; omega)) (by simp only [ne_eq, reduceCtorEq, not_false_eq_true, ev_other _ 65 13 _ (by decide), ev_other _ 66 13 _ (by decide), ev_other _ 61 13 _ (by decide), ev_other _ 62 13 _ (by decide), ev_other _ 58 13 _ (by decide)]; exact f13) (by simp only [sz_put]; exact fsz) ⟨_, _, _, rfl⟩ ⟨_, _, _, rfl⟩ hne (hX15 _ hB2) (hX16 _ hB2) (hXf _ hB2) hQ (hS _ hB2) ?_
      exact hK _ _ b1 k1 b2 k2 W2 hB2 (hc1.on (((Below.refl _ W1).alloc (Nat.le_refl _) _).trans (hb2.mono (by simp)))) hc2
    · refine wp_build (d := some 62) rfl rfl ⟨hS _ (nw _ (nw _ hd)), ?_⟩
      refine all_one (i := 3) (by kernel_rfl) rfl rfl ?_
      obtain ⟨b1, k1, W1, hr1, hb1, hc1⟩ := copy_run ho (nw _ (nw _ hd)) (B := w.drew.heap.size) (Nat.le_refl _) (by simp <;> omega) 25
      have hB1 := (nw _ (nw _ hd)).trans (hb1.mono (nw _ (nw _ hd)).size)
      refine wp_append (d := some 61) (.tmp 58) (.tmp 60) 25 rfl rfl (by rw [ev_other _ _ _ _ (by decide)]; exact ev_same _ _ _ (by omega)) (by rw [ev_other _ _ _ _ (by decide), ev_other _ _ _ _ (by decide)]; exact f60) hr1 ⟨hS _ hB1, ?_⟩
      refine take_one (i := 8) (d := some 66) (v := .pointer (some ⟨Xb, 15, none⟩)) rfl rfl rfl (by kernel_rfl) (by kernel_rfl) (by kernel_rfl) hQ (fun W _ => ex_field 13 9 rfl 15 (by rw [ev_other _ _ _ _ (by decide), ev_other _ _ _ _ (by decide), ev_other _ _ _ _ (by decide)]; exact f13) (.inl ⟨rfl, rfl⟩)) (hS _ hB1) ?_
      obtain ⟨b2, k2, W2, hr2, hb2, hc2⟩ := copy_run hb hB1 (B := (w.drew.alloc (.cells #[] 5)).heap.size) (nw _ hd).size (Nat.lt_of_lt_of_le (by simp) hb1.size) 25
      have hB2 := hB1.trans (hb2.mono hB1.size)
      refine all_one (i := 7) (by kernel_rfl) rfl rfl ?_
      refine wp_append (d := some 65) (.tmp 62) (.tmp 64) 25 rfl rfl (by rw [ev_other _ _ _ _ (by decide), ev_other _ _ _ _ (by decide)]; exact ev_same _ _ _ (by simp only [sz_put]; omega)) (by rw [ev_other _ _ _ _ (by decide), ev_other _ _ _ _ (by decide), ev_other _ _ _ _ (by decide), ev_other _ _ _ _ (by decide)]; exact f64) hr2 ⟨hS _ hB2, ?_⟩
      refine fin12 (by kernel_rfl) (by rw [ev_other _ _ _ _ (by decide)]; exact ev_same _ _ _ (by simp only [sz_put]; omega)) (by rw [ev_other _ _ _ _ (by decide), ev_other _ _ _ _ (by decide)]; exact ev_same _ _ _ (by simp only [sz_put]; omega)) (ev_same _ _ _ (by simp only [sz_put]; omega)) (by simp only [ne_eq, reduceCtorEq, not_false_eq_true, ev_other _ 65 13 _ (by decide), ev_other _ 66 13 _ (by decide), ev_other _ 61 13 _ (by decide), ev_other _ 62 13 _ (by decide), ev_other _ 58 13 _ (by decide)]; exact f13) (by simp only [sz_put]; exact fsz) ⟨_, _, _, rfl⟩ ⟨_, _, _, rfl⟩ hne (hX15 _ hB2) (hX16 _ hB2) (hXf _ hB2) hQ (hS _ hB2) ?_
      exact hK _ _ b1 k1 b2 k2 W2 hB2 (hc1.on hb2) hc2
  · refine wp_build (d := some 62) rfl rfl ⟨hS _ (nw _ hd), ?_⟩
    refine all_one (i := 0) (by kernel_rfl) rfl rfl ?_
    refine wp_build (d := some 58) rfl rfl ⟨hS _ (nw _ (nw _ hd)), ?_⟩
    refine all_one (i := 3) (by kernel_rfl) rfl rfl ?_
    obtain ⟨b1, k1, W1, hr1, hb1, hc1⟩ := copy_run ho (nw _ (nw _ hd)) (B := (w.drew.alloc (.cells #[] 5)).heap.size) (nw _ hd).size (by simp) 25
    have hB1 := (nw _ (nw _ hd)).trans (hb1.mono (nw _ (nw _ hd)).size)
    refine wp_append (d := some 61) (.tmp 58) (.tmp 60) 25 rfl rfl (ev_same _ _ _ (by simp only [sz_put]; omega)) (by rw [ev_other _ _ _ _ (by decide), ev_other _ _ _ _ (by decide)]; exact f60) hr1 ⟨hS _ hB1, ?_⟩
    refine take_one (i := 8) (d := some 66) (v := .pointer (some ⟨Xb, 15, none⟩)) rfl rfl rfl (by kernel_rfl) (by kernel_rfl) (by kernel_rfl) hQ (fun W _ => ex_field 13 9 rfl 15 (by rw [ev_other _ _ _ _ (by decide), ev_other _ _ _ _ (by decide), ev_other _ _ _ _ (by decide)]; exact f13) (.inl ⟨rfl, rfl⟩)) (hS _ hB1) ?_
    obtain ⟨b2, k2, W2, hr2, hb2, hc2⟩ := copy_run hb hB1 (B := w.drew.heap.size) (Nat.le_refl _) (Nat.lt_of_lt_of_le (by simp <;> omega) hb1.size) 25
    have hB2 := hB1.trans (hb2.mono hB1.size)
    refine all_one (i := 7) (by kernel_rfl) rfl rfl ?_
    refine wp_append (d := some 65) (.tmp 62) (.tmp 64) 25 rfl rfl (by rw [ev_other _ _ _ _ (by decide), ev_other _ _ _ _ (by decide), ev_other _ _ _ _ (by decide)]; exact ev_same _ _ _ (by omega)) (by rw [ev_other _ _ _ _ (by decide), ev_other _ _ _ _ (by decide), ev_other _ _ _ _ (by decide), ev_other _ _ _ _ (by decide)]; exact f64) hr2 ⟨hS _ hB2, ?_⟩
    rw [put_swap _ 62 58 _ _ (by decide)]
    refine fin12 (by kernel_rfl) (by rw [ev_other _ _ _ _ (by decide)]; exact ev_same _ _ _ (by simp only [sz_put]; omega)) (by rw [ev_other _ _ _ _ (by decide), ev_other _ _ _ _ (by decide)]; exact ev_same _ _ _ (by simp only [sz_put]; omega)) (ev_same _ _ _ (by simp only [sz_put]; omega)) (by simp only [ne_eq, reduceCtorEq, not_false_eq_true, ev_other _ 65 13 _ (by decide), ev_other _ 66 13 _ (by decide), ev_other _ 61 13 _ (by decide), ev_other _ 62 13 _ (by decide), ev_other _ 58 13 _ (by decide)]; exact f13) (by simp only [sz_put]; exact fsz) ⟨_, _, _, rfl⟩ ⟨_, _, _, rfl⟩ hne (hX15 _ hB2) (hX16 _ hB2) (hXf _ hB2) hQ (hS _ hB2) ?_
    exact hK _ _ b1 k1 b2 k2 W2 hB2 (hc1.on hb2) hc2

theorem CopyAt.bytes {B b k : Nat} {W : World} {zs : List Int} (h : CopyAt B W b k zs) (hf : Fit zs) (hl : zs.length ≤ 140737488351232) : BytesAt W.heap.size W (.slice (some ⟨b, 0, none⟩) zs.length k) zs := by
  rcases h.own with rfl | ho
  · exact ⟨hf, hl, _, _, rfl, .inl rfl⟩
  · have := ho.bytes hf hl 0 zs.length k (by simp)
    simpa using this
theorem OwnG.off {W W' : World} {b g : Nat} {zs : List Int} (h : OwnG W b zs) (ho : Only g W W') (hne : b ≠ g) : OwnG W' b zs := by
  obtain ⟨cs, t, hc⟩ := h.typed
  have := ho.other b hne
  refine ⟨⟨cs, t, this.trans hc⟩, fun j hj => ?_⟩
  rw [← h.cell j hj]
  simp [World.cell?, this]
theorem CopyAt.off {B b k g : Nat} {W W' : World} {zs : List Int} (h : CopyAt B W b k zs) (ho : Only g W W') (hne : g < B) : CopyAt B W' b k zs :=
  ⟨h.lo, by rw [ho.size]; exact h.lt, h.cap, h.own.imp (fun h => h) (fun o => o.off ho (by have := h.lo; omega))⟩

/-- What is written, and where. -/
theorem Write_at (c : List Value) (tos id : Int) (df mf : Bool) (off ttl proto s0 s1 s2 s3 d0 d1 d2 d3 : Int) (opts body : List Int) (w : World) (h : Dgram w c tos id df mf off ttl proto s0 s1 s2 s3 d0 d1 d2 d3 opts body) :
    Calls Try.prog 11 #[.agg c.toArray] w fun e w' => ∃ v, e = .returned (.tuple #[v, .int .i64 (chk off opts.length body.length)]) ∧ BytesAt w'.heap.size w' v (wrB tos id df mf off ttl proto s0 s1 s2 s3 d0 d1 d2 d3 opts body) ∧ ((wrB tos id df mf off ttl proto s0 s1 s2 s3 d0 d1 d2 d3 opts body).length = 0 ∨ ∃ b off n k, v = .slice (some ⟨b, off, none⟩) n k ∧ w.heap.size ≤ b) ∧ Below w.heap.size w w' := by
  by_cases hk : chk off opts.length body.length = 0
  · refine (Write_ok c tos id df mf off ttl proto s0 s1 s2 s3 d0 d1 d2 d3 opts body w h hk).mono ?_
    rintro e w' ⟨g, rfl, hg, own, hb⟩
    obtain ⟨hf, hl⟩ := wr_fit h hk
    obtain ⟨_, hnb, _⟩ := chk_zero hk
    refine ⟨_, by rw [hk], ?_, .inr ⟨_, _, _, _, rfl, hg⟩, hb⟩
    unfold wrB
    rw [if_pos hk]
    have := own.bytes hf (by omega) 0 (20 + opts.length + body.length) (20 + opts.length + body.length) (by omega)
    rwa [List.drop_zero, List.take_of_length_le (by omega)] at this
  · refine (Write_no c off opts.length body.length w h.lens hk).mono ?_
    rintro e w' ⟨rfl, hb⟩
    have e0 : wrB tos id df mf off ttl proto s0 s1 s2 s3 d0 d1 d2 d3 opts body = [] := by unfold wrB; rw [if_neg hk]
    rw [e0]
    exact ⟨_, rfl, BytesAt.none _, .inl rfl, hb⟩

end Go.Proofs.Ytmoogfdmlbalbaa
