/-
  A datagram of IPv4 as an argument: its fields, its box, cut of the statements of layer 17.
-/
import Derived.Test.YtnjkagopmfenkaaGreatFold05
import Derived.Test.YtnjkagopmfenkaaGreatSk7
import Derived.Test.YtnjkagopmfenkaaGreatFold08
import Derived.Test.YtnjkagopmfenkaaGreatFold00
namespace Go.Proofs.YtnjkagopmfenkaaGreat
open Go Go.RowKit Go.ChangeShapes Go.WideShapes Go.ChangeAt
set_option linter.unusedVariables false
set_option linter.unusedSimpArgs false

structure Fd where
  tos : Int
  id : Int
  df : Bool
  ttl : Int
  proto : Int
  s0 : Int
  s1 : Int
  s2 : Int
  s3 : Int
  d0 : Int
  d1 : Int
  d2 : Int
  d3 : Int
def vC (f : Fd) (mf : Bool) (off : Int) (so sb : Value) : List Value :=
  [.int .u8 f.tos, .int .u16 f.id, .bool f.df, .bool mf, .int .i64 off, .int .u8 f.ttl, .int .u8 f.proto, .int .u8 f.s0, .int .u8 f.s1, .int .u8 f.s2, .int .u8 f.s3, .int .u8 f.d0, .int .u8 f.d1, .int .u8 f.d2, .int .u8 f.d3, so, sb]
abbrev VV (f : Fd) (mf : Bool) (off : Int) (so sb : Value) : Value := .agg (vC f mf off so sb).toArray
abbrev BV (f : Fd) (mf : Bool) (off : Int) (so sb : Value) : Obj := .cells (vC f mf off so sb).toArray 27
theorem vC_len (f : Fd) (mf : Bool) (off : Int) (so sb : Value) : (vC f mf off so sb).length = 17 := rfl
theorem vC_one (f : Fd) (mf : Bool) (off : Int) {so sb : Value} (h1 : so.oneCell' = true) (h2 : sb.oneCell' = true) : ∀ v ∈ vC f mf off so sb, v.oneCell' = true := by
  intro v hv
  simp only [vC, List.mem_cons, List.not_mem_nil, or_false] at hv
  rcases hv with rfl | rfl | rfl | rfl | rfl | rfl | rfl | rfl | rfl | rfl | rfl | rfl | rfl | rfl | rfl | rfl | rfl <;> first | rfl | assumption
theorem BS.one {S : Nat → Prop} {w : World} {v : Value} {zs : List Int} (h : BS S w v zs) : v.oneCell' = true := by
  obtain ⟨_, _, a, cap, rfl, _⟩ := h.row
  rfl
section
variable {W : World} {b : Nat} {f : Fd} {mf : Bool} {off : Int} {so sb : Value}
theorem vb_load (h : W.heap[b]? = some (BV f mf off so sb)) : (Instr.loadAt 27 (.pointer (some ⟨b, 0, none⟩))).run Tryz.prog W = .ok (VV f mf off so sb) W :=
  agg_load Tryz.isAgg27 Tryz.sizeOf27 (vC_len ..) (CellsAt.of_blk h)
theorem vb2 (h : W.heap[b]? = some (BV f mf off so sb)) : W.cell? ⟨b, 2, none⟩ = some (.bool f.df) := blk_cell h rfl
theorem vb3 (h : W.heap[b]? = some (BV f mf off so sb)) : W.cell? ⟨b, 3, none⟩ = some (.bool mf) := blk_cell h rfl
theorem vb4 (h : W.heap[b]? = some (BV f mf off so sb)) : W.cell? ⟨b, 4, none⟩ = some (.int .i64 off) := blk_cell h rfl
theorem vb15 (h : W.heap[b]? = some (BV f mf off so sb)) : W.cell? ⟨b, 15, none⟩ = some so := blk_cell h rfl
theorem vb16 (h : W.heap[b]? = some (BV f mf off so sb)) : W.cell? ⟨b, 16, none⟩ = some sb := blk_cell h rfl
theorem vs3 (h : W.heap[b]? = some (BV f mf off so sb)) (x : Bool) : (W.setCell ⟨b, 3, none⟩ (.bool x)).heap[b]? = some (BV f x off so sb) := blk_set h 3 _
theorem vs4 (h : W.heap[b]? = some (BV f mf off so sb)) (x : Int) : (W.setCell ⟨b, 4, none⟩ (.int .i64 x)).heap[b]? = some (BV f mf x so sb) := blk_set h 4 _
theorem vs15 (h : W.heap[b]? = some (BV f mf off so sb)) (x : Value) : (W.setCell ⟨b, 15, none⟩ x).heap[b]? = some (BV f mf off x sb) := blk_set h 15 _
theorem vs16 (h : W.heap[b]? = some (BV f mf off so sb)) (x : Value) : (W.setCell ⟨b, 16, none⟩ x).heap[b]? = some (BV f mf off so x) := blk_set h 16 _
end
def zeroV : List Value := [.int .u8 0, .int .u16 0, .bool false, .bool false, .int .i64 0, .int .u8 0, .int .u8 0, .int .u8 0, .int .u8 0, .int .u8 0, .int .u8 0, .int .u8 0, .int .u8 0, .int .u8 0, .int .u8 0, .slice none 0 0, .slice none 0 0]
theorem vb_lens {w : World} {f : Fd} {mf : Bool} {off : Int} {so sb : Value} {o b : List Int} (h1 : RowC w so o) (h2 : RowC w sb b) (hb : -9223372036854775808 ≤ off ∧ off ≤ 9223372036854775807) : V4.Lens (vC f mf off so sb) off o.length b.length := by
  obtain ⟨_, l1, a1, c1, rfl, _⟩ := h1
  obtain ⟨_, l2, a2, c2, rfl, _⟩ := h2
  exact ⟨rfl, rfl, ⟨_, _, rfl⟩, ⟨_, _, rfl⟩, hb, l1, l2⟩
theorem st_row {W : World} {b j : Nat} {c : List Value} {t : TypeId} (h : W.heap[b]? = some (.cells c.toArray t)) (hj : j < c.length) {v : Value} (hv : ∃ x n m, v = .slice x n m) : (Instr.storeAt 25 (.pointer (some ⟨b, j, none⟩)) v).run Tryz.prog W = .ok () (W.setCell ⟨b, j, none⟩ v) := by
  obtain ⟨x, n, m, rfl⟩ := hv
  have h1 : W.cell? ⟨b, j, none⟩ = some (c[j]'hj) := blk_cell h (by simp)
  have h2 := blk_open h j
  simp [Instr.storeAt, go_sem, h1, h2]
theorem BS.slc {S : Nat → Prop} {w : World} {v : Value} {zs : List Int} (h : BS S w v zs) : ∃ x n m, v = .slice x n m := by
  obtain ⟨_, _, a, cap, e, _⟩ := h.row
  exact ⟨_, _, _, e⟩
theorem armL {P : Program} {w : World} {ops : Array Oper} {rest : List Oper} {o : Oper} {a : Act} {Q : Exit → Act → World → Prop} (p : Operand) (t : TypeId) (hop : o.op = Op.load t p) (hg : o.guard = none) {vp v : Value} (hp : a.eval p = vp) (hrun : (Instr.loadAt t vp).run P w = .ok v w) (hK : wpList P ops Q rest (a.put o.dst v) w) : wpList P ops Q (o :: rest) a w :=
  arm_load (by simp [Region.wanted, hg]) p t hop hp hrun hK
theorem armS {P : Program} {w w2 : World} {ops : Array Oper} {rest : List Oper} {o : Oper} {a : Act} {Q : Exit → Act → World → Prop} (p x : Operand) (t : TypeId) (hop : o.op = Op.store t p x) (hg : o.guard = none) {vp vx : Value} (hp : a.eval p = vp) (hx : a.eval x = vx) (hrun : (Instr.storeAt t vp vx).run P w = .ok () w2) (hK : wpList P ops Q rest (a.put o.dst (.tuple #[])) w2) : wpList P ops Q (o :: rest) a w :=
  arm_store (by simp [Region.wanted, hg]) p x t hop hp hx hrun hK
theorem blk_two (w : World) (o1 o2 : Obj) : ((w.alloc o1).alloc o2).heap[w.heap.size]? = some o1 ∧ ((w.alloc o1).alloc o2).heap[w.heap.size + 1]? = some o2 ∧ Below w.heap.size w ((w.alloc o1).alloc o2) ∧ ((w.alloc o1).alloc o2).heap.size = w.heap.size + 2 := by
  refine ⟨blk_alloc (blk_new w o1) o2, ?_, ((Below.refl w.heap.size w).alloc (Nat.le_refl _) o1).alloc (by simp) o2, by simp⟩
  have := blk_new (w.alloc o1) o2
  rwa [show (w.alloc o1).heap.size = w.heap.size + 1 by simp] at this
section
variable {W : World} {b : Nat} {f : Fd} {mf : Bool} {off : Int} {so sb : Value}
theorem put15 (h : W.heap[b]? = some (BV f mf off so sb)) {v : Value} (hv : ∃ x n m, v = .slice x n m) : ∃ W', (Instr.storeAt 25 (.pointer (some ⟨b, 15, none⟩)) v).run Tryz.prog W = .ok () W' ∧ W'.heap[b]? = some (BV f mf off v sb) ∧ Only b W W' := ⟨_, st_row h (show 15 < 17 by decide) hv, vs15 h v, (Only.refl _ _).set 15 _⟩
theorem put16 (h : W.heap[b]? = some (BV f mf off so sb)) {v : Value} (hv : ∃ x n m, v = .slice x n m) : ∃ W', (Instr.storeAt 25 (.pointer (some ⟨b, 16, none⟩)) v).run Tryz.prog W = .ok () W' ∧ W'.heap[b]? = some (BV f mf off so v) ∧ Only b W W' := ⟨_, st_row h (show 16 < 17 by decide) hv, vs16 h v, (Only.refl _ _).set 16 _⟩
end
set_option maxHeartbeats 2000000 in
set_option maxRecDepth 100000 in
theorem cut_00 (f : Fd) (mf : Bool) (off : Int) (so sb : Value) (opts body : List Int) (w0 w : World) (h1 : RowC w0 so opts) (h2 : RowC w0 sb body) (q2 : ¬ 100 < opts.length) (q1 : ¬ 66000 < body.length) :
    Calls Tryz.prog 9 #[VV f mf off so sb] w fun e w' => ∃ so' sb', e = .returned (VV f mf off so' sb') ∧ RowC w0 so' (opts.take 100) ∧ RowC w0 sb' (body.take 66000) ∧ Below w.heap.size w w' := by
  have s1 : so.oneCell' = true := (BS.of_row h1).one
  have s2 : sb.oneCell' = true := (BS.of_row h2).one
  have HR1 : Hid (RowC w0 so (opts.take 100)) := by show RowC _ _ _; rw [List.take_of_length_le (by omega)]; exact h1
  have s1' := s1
  have HR2 : Hid (RowC w0 sb (body.take 66000)) := by show RowC _ _ _; rw [List.take_of_length_le (by omega)]; exact h2
  have s2' := s2
  obtain ⟨a1, c1, e1⟩ : ∃ a c, so = .slice a opts.length c := by obtain ⟨_, _, a, cap, e, _⟩ := h1; exact ⟨_, _, e⟩
  obtain ⟨a2, c2, e2⟩ : ∃ a c, sb = .slice a body.length c := by obtain ⟨_, _, a, cap, e, _⟩ := h2; exact ⟨_, _, e⟩
  have hl1 := h1.len
  have hl2 := h2.len
  obtain ⟨hb0, hr0, hB0, hs0⟩ := blk_two w (BV f mf off so sb) (.cells zeroV.toArray 27)
  have d16 := vb16 hb0
  rw [e2] at d16
  rw [← e2] at d16
  have d15 := vb15 hb0
  obtain ⟨W3, hst3, hbx3, hon3⟩ := box_store Tryz.sizeOf27 hr0 rfl (vC f mf off so sb) rfl (vC_one f mf off s1' s2')
  have HFIN : Hid (Below w.heap.size w W3) := hB0.trans (hon3.below (by omega))
  have HRES : Hid _ := agg_loadVar (t := 27) Tryz.isAgg27 Tryz.sizeOf27 (vC_len f mf off so sb) (CellsAt.of_blk hbx3)
  have hld := vb_load hb0
  unfold zeroV at hld hst3
  have HLD : Hid _ := hld
  have HS3 : Hid _ := hst3
  have hB0 := hB0
  unfold zeroV at d16
  unfold zeroV at d15
  subst e1 e2
  clear hld hst3 hbx3 hon3 hb0 hr0 hB0 hs0 h1 h2
  generalize opts.length = no at *
  generalize body.length = nb at *
  go_enter Tryz.func9, Tryz.ntmps9
  go_wp2_with first
    | ((with_reducible show wpList _ _ _ ({ dst := _, op := Op.load 27 (Operand.tmp 1), type := _, pos := _, after := _, guard := _ } :: _) _ _); refine armL (.tmp 1) 27 rfl rfl rfl HLD.out ?_)
    | ((with_reducible show wpList _ _ _ ({ dst := _, op := Op.store 27 (Operand.tmp 2) (Operand.tmp 19), type := _, pos := _, after := _, guard := _ } :: _) _ _); refine armS (.tmp 2) (Operand.tmp 19) 27 rfl rfl rfl rfl HS3.out ?_; simp only [Act.put])
  refine bodyPost_ret (res1t rfl rfl HRES.out) rfl ?_
  exact ⟨_, _, rfl, HR1.out, HR2.out, HFIN.out⟩

set_option maxHeartbeats 2000000 in
set_option maxRecDepth 100000 in
theorem cut_01 (f : Fd) (mf : Bool) (off : Int) (so sb : Value) (opts body : List Int) (w0 w : World) (h1 : RowC w0 so opts) (h2 : RowC w0 sb body) (q2 : 100 < opts.length) (q1 : ¬ 66000 < body.length) :
    Calls Tryz.prog 9 #[VV f mf off so sb] w fun e w' => ∃ so' sb', e = .returned (VV f mf off so' sb') ∧ RowC w0 so' (opts.take 100) ∧ RowC w0 sb' (body.take 66000) ∧ Below w.heap.size w w' := by
  have s1 : so.oneCell' = true := (BS.of_row h1).one
  have s2 : sb.oneCell' = true := (BS.of_row h2).one
  obtain ⟨so', hu1, hr1⟩ := cut_front h1.cons (by omega) 100 (by omega)
  have hs1 := hr1.slc
  have HR1 : Hid (RowC w0 so' (opts.take 100)) := hr1.row
  have HU1 : Hid _ := hu1
  have s1' := hr1.one
  clear hu1 hr1
  have HR2 : Hid (RowC w0 sb (body.take 66000)) := by show RowC _ _ _; rw [List.take_of_length_le (by omega)]; exact h2
  have s2' := s2
  obtain ⟨a1, c1, e1⟩ : ∃ a c, so = .slice a opts.length c := by obtain ⟨_, _, a, cap, e, _⟩ := h1; exact ⟨_, _, e⟩
  obtain ⟨a2, c2, e2⟩ : ∃ a c, sb = .slice a body.length c := by obtain ⟨_, _, a, cap, e, _⟩ := h2; exact ⟨_, _, e⟩
  have hl1 := h1.len
  have hl2 := h2.len
  obtain ⟨hb0, hr0, hB0, hs0⟩ := blk_two w (BV f mf off so sb) (.cells zeroV.toArray 27)
  have d16 := vb16 hb0
  rw [e2] at d16
  rw [← e2] at d16
  have d15 := vb15 hb0
  obtain ⟨W2, hst2, hb2, hon2⟩ := put15 hb0 hs1
  have hr2 := (hon2.other (w.heap.size + 1) (by omega)).trans hr0
  have hB2 := hB0.trans (hon2.below (Nat.le_refl _))
  unfold zeroV at hst2
  have HS2 : Hid _ := hst2
  clear hst2 hon2
  obtain ⟨W3, hst3, hbx3, hon3⟩ := box_store Tryz.sizeOf27 hr2 rfl (vC f mf off so' sb) rfl (vC_one f mf off s1' s2')
  have HFIN : Hid (Below w.heap.size w W3) := hB2.trans (hon3.below (by omega))
  have HRES : Hid _ := agg_loadVar (t := 27) Tryz.isAgg27 Tryz.sizeOf27 (vC_len f mf off so' sb) (CellsAt.of_blk hbx3)
  have hld := vb_load hb2
  
  have HLD : Hid _ := hld
  have HS3 : Hid _ := hst3
  unfold zeroV at d16
  unfold zeroV at d15
  subst e1 e2
  clear hld hst3 hbx3 hon3 hb0 hr0 hB0 hs0 h1 h2 hb2 hr2 hB2
  generalize opts.length = no at *
  generalize body.length = nb at *
  go_enter Tryz.func9, Tryz.ntmps9
  go_wp2_with first
    | ((with_reducible show wpList _ _ _ ({ dst := _, op := Op.slice 25 (Operand.tmp 16) none (some (Operand.const (Value.int IntKind.i64 100))) none, type := _, pos := _, after := _, guard := _ } :: _) _ _); refine arm_slice rfl 25 (.tmp 16) none (some (.const (.int .i64 100))) rfl rfl rfl rfl (HU1.out _) ?_)
    | ((with_reducible show wpList _ _ _ ({ dst := _, op := Op.store 25 (Operand.tmp 18) (Operand.tmp 17), type := _, pos := _, after := _, guard := _ } :: _) _ _); refine armS (.tmp 18) (Operand.tmp 17) 25 rfl rfl rfl rfl HS2.out ?_; simp only [Act.put])
    | ((with_reducible show wpList _ _ _ ({ dst := _, op := Op.load 27 (Operand.tmp 1), type := _, pos := _, after := _, guard := _ } :: _) _ _); refine armL (.tmp 1) 27 rfl rfl rfl HLD.out ?_)
    | ((with_reducible show wpList _ _ _ ({ dst := _, op := Op.store 27 (Operand.tmp 2) (Operand.tmp 19), type := _, pos := _, after := _, guard := _ } :: _) _ _); refine armS (.tmp 2) (Operand.tmp 19) 27 rfl rfl rfl rfl HS3.out ?_; simp only [Act.put])
  refine bodyPost_ret (res1t rfl rfl HRES.out) rfl ?_
  exact ⟨_, _, rfl, HR1.out, HR2.out, HFIN.out⟩

set_option maxHeartbeats 2000000 in
set_option maxRecDepth 100000 in
theorem cut_10 (f : Fd) (mf : Bool) (off : Int) (so sb : Value) (opts body : List Int) (w0 w : World) (h1 : RowC w0 so opts) (h2 : RowC w0 sb body) (q2 : ¬ 100 < opts.length) (q1 : 66000 < body.length) :
    Calls Tryz.prog 9 #[VV f mf off so sb] w fun e w' => ∃ so' sb', e = .returned (VV f mf off so' sb') ∧ RowC w0 so' (opts.take 100) ∧ RowC w0 sb' (body.take 66000) ∧ Below w.heap.size w w' := by
  have s1 : so.oneCell' = true := (BS.of_row h1).one
  have s2 : sb.oneCell' = true := (BS.of_row h2).one
  have HR1 : Hid (RowC w0 so (opts.take 100)) := by show RowC _ _ _; rw [List.take_of_length_le (by omega)]; exact h1
  have s1' := s1
  obtain ⟨sb', hu2, hr2⟩ := cut_front h2.cons (by omega) 66000 (by omega)
  have hs2 := hr2.slc
  have HR2 : Hid (RowC w0 sb' (body.take 66000)) := hr2.row
  have HU2 : Hid _ := hu2
  have s2' := hr2.one
  clear hu2 hr2
  obtain ⟨a1, c1, e1⟩ : ∃ a c, so = .slice a opts.length c := by obtain ⟨_, _, a, cap, e, _⟩ := h1; exact ⟨_, _, e⟩
  obtain ⟨a2, c2, e2⟩ : ∃ a c, sb = .slice a body.length c := by obtain ⟨_, _, a, cap, e, _⟩ := h2; exact ⟨_, _, e⟩
  have hl1 := h1.len
  have hl2 := h2.len
  obtain ⟨hb0, hr0, hB0, hs0⟩ := blk_two w (BV f mf off so sb) (.cells zeroV.toArray 27)
  have d16 := vb16 hb0
  rw [e2] at d16
  rw [← e2] at d16
  obtain ⟨W1, hst1, hb1, hon1⟩ := put16 hb0 hs2
  have hr1 := (hon1.other (w.heap.size + 1) (by omega)).trans hr0
  have hB1 := hB0.trans (hon1.below (Nat.le_refl _))
  unfold zeroV at hst1
  have HS1 : Hid _ := hst1
  clear hst1 hon1
  have d15 := vb15 hb1
  obtain ⟨W3, hst3, hbx3, hon3⟩ := box_store Tryz.sizeOf27 hr1 rfl (vC f mf off so sb') rfl (vC_one f mf off s1' s2')
  have HFIN : Hid (Below w.heap.size w W3) := hB1.trans (hon3.below (by omega))
  have HRES : Hid _ := agg_loadVar (t := 27) Tryz.isAgg27 Tryz.sizeOf27 (vC_len f mf off so sb') (CellsAt.of_blk hbx3)
  have hld := vb_load hb1
  
  have HLD : Hid _ := hld
  have HS3 : Hid _ := hst3
  unfold zeroV at d16
  subst e1 e2
  clear hld hst3 hbx3 hon3 hb0 hr0 hB0 hs0 h1 h2 hb1 hr1 hB1
  generalize opts.length = no at *
  generalize body.length = nb at *
  go_enter Tryz.func9, Tryz.ntmps9
  go_wp2_with first
    | ((with_reducible show wpList _ _ _ ({ dst := _, op := Op.slice 25 (Operand.tmp 8) none (some (Operand.const (Value.int IntKind.i64 66000))) none, type := _, pos := _, after := _, guard := _ } :: _) _ _); refine arm_slice rfl 25 (.tmp 8) none (some (.const (.int .i64 66000))) rfl rfl rfl rfl (HU2.out _) ?_)
    | ((with_reducible show wpList _ _ _ ({ dst := _, op := Op.store 25 (Operand.tmp 10) (Operand.tmp 9), type := _, pos := _, after := _, guard := _ } :: _) _ _); refine armS (.tmp 10) (Operand.tmp 9) 25 rfl rfl rfl rfl HS1.out ?_; simp only [Act.put])
    | ((with_reducible show wpList _ _ _ ({ dst := _, op := Op.load 27 (Operand.tmp 1), type := _, pos := _, after := _, guard := _ } :: _) _ _); refine armL (.tmp 1) 27 rfl rfl rfl HLD.out ?_)
    | ((with_reducible show wpList _ _ _ ({ dst := _, op := Op.store 27 (Operand.tmp 2) (Operand.tmp 19), type := _, pos := _, after := _, guard := _ } :: _) _ _); refine armS (.tmp 2) (Operand.tmp 19) 27 rfl rfl rfl rfl HS3.out ?_; simp only [Act.put])
  refine bodyPost_ret (res1t rfl rfl HRES.out) rfl ?_
  exact ⟨_, _, rfl, HR1.out, HR2.out, HFIN.out⟩

set_option maxHeartbeats 2000000 in
set_option maxRecDepth 100000 in
theorem cut_11 (f : Fd) (mf : Bool) (off : Int) (so sb : Value) (opts body : List Int) (w0 w : World) (h1 : RowC w0 so opts) (h2 : RowC w0 sb body) (q2 : 100 < opts.length) (q1 : 66000 < body.length) :
    Calls Tryz.prog 9 #[VV f mf off so sb] w fun e w' => ∃ so' sb', e = .returned (VV f mf off so' sb') ∧ RowC w0 so' (opts.take 100) ∧ RowC w0 sb' (body.take 66000) ∧ Below w.heap.size w w' := by
  have s1 : so.oneCell' = true := (BS.of_row h1).one
  have s2 : sb.oneCell' = true := (BS.of_row h2).one
  obtain ⟨so', hu1, hr1⟩ := cut_front h1.cons (by omega) 100 (by omega)
  have hs1 := hr1.slc
  have HR1 : Hid (RowC w0 so' (opts.take 100)) := hr1.row
  have HU1 : Hid _ := hu1
  have s1' := hr1.one
  clear hu1 hr1
  obtain ⟨sb', hu2, hr2⟩ := cut_front h2.cons (by omega) 66000 (by omega)
  have hs2 := hr2.slc
  have HR2 : Hid (RowC w0 sb' (body.take 66000)) := hr2.row
  have HU2 : Hid _ := hu2
  have s2' := hr2.one
  clear hu2 hr2
  obtain ⟨a1, c1, e1⟩ : ∃ a c, so = .slice a opts.length c := by obtain ⟨_, _, a, cap, e, _⟩ := h1; exact ⟨_, _, e⟩
  obtain ⟨a2, c2, e2⟩ : ∃ a c, sb = .slice a body.length c := by obtain ⟨_, _, a, cap, e, _⟩ := h2; exact ⟨_, _, e⟩
  have hl1 := h1.len
  have hl2 := h2.len
  obtain ⟨hb0, hr0, hB0, hs0⟩ := blk_two w (BV f mf off so sb) (.cells zeroV.toArray 27)
  have d16 := vb16 hb0
  rw [e2] at d16
  rw [← e2] at d16
  obtain ⟨W1, hst1, hb1, hon1⟩ := put16 hb0 hs2
  have hr1 := (hon1.other (w.heap.size + 1) (by omega)).trans hr0
  have hB1 := hB0.trans (hon1.below (Nat.le_refl _))
  unfold zeroV at hst1
  have HS1 : Hid _ := hst1
  clear hst1 hon1
  have d15 := vb15 hb1
  obtain ⟨W2, hst2, hb2, hon2⟩ := put15 hb1 hs1
  have hr2 := (hon2.other (w.heap.size + 1) (by omega)).trans hr1
  have hB2 := hB1.trans (hon2.below (Nat.le_refl _))
  have HS2 : Hid _ := hst2
  clear hst2 hon2
  obtain ⟨W3, hst3, hbx3, hon3⟩ := box_store Tryz.sizeOf27 hr2 rfl (vC f mf off so' sb') rfl (vC_one f mf off s1' s2')
  have HFIN : Hid (Below w.heap.size w W3) := hB2.trans (hon3.below (by omega))
  have HRES : Hid _ := agg_loadVar (t := 27) Tryz.isAgg27 Tryz.sizeOf27 (vC_len f mf off so' sb') (CellsAt.of_blk hbx3)
  have hld := vb_load hb2
  
  have HLD : Hid _ := hld
  have HS3 : Hid _ := hst3
  unfold zeroV at d16
  subst e1 e2
  clear hld hst3 hbx3 hon3 hb0 hr0 hB0 hs0 h1 h2 hb1 hr1 hB1 hb2 hr2 hB2
  generalize opts.length = no at *
  generalize body.length = nb at *
  go_enter Tryz.func9, Tryz.ntmps9
  go_wp2_with first
    | ((with_reducible show wpList _ _ _ ({ dst := _, op := Op.slice 25 (Operand.tmp 8) none (some (Operand.const (Value.int IntKind.i64 66000))) none, type := _, pos := _, after := _, guard := _ } :: _) _ _); refine arm_slice rfl 25 (.tmp 8) none (some (.const (.int .i64 66000))) rfl rfl rfl rfl (HU2.out _) ?_)
    | ((with_reducible show wpList _ _ _ ({ dst := _, op := Op.store 25 (Operand.tmp 10) (Operand.tmp 9), type := _, pos := _, after := _, guard := _ } :: _) _ _); refine armS (.tmp 10) (Operand.tmp 9) 25 rfl rfl rfl rfl HS1.out ?_; simp only [Act.put])
    | ((with_reducible show wpList _ _ _ ({ dst := _, op := Op.slice 25 (Operand.tmp 16) none (some (Operand.const (Value.int IntKind.i64 100))) none, type := _, pos := _, after := _, guard := _ } :: _) _ _); refine arm_slice rfl 25 (.tmp 16) none (some (.const (.int .i64 100))) rfl rfl rfl rfl (HU1.out _) ?_)
    | ((with_reducible show wpList _ _ _ ({ dst := _, op := Op.store 25 (Operand.tmp 18) (Operand.tmp 17), type := _, pos := _, after := _, guard := _ } :: _) _ _); refine armS (.tmp 18) (Operand.tmp 17) 25 rfl rfl rfl rfl HS2.out ?_; simp only [Act.put])
    | ((with_reducible show wpList _ _ _ ({ dst := _, op := Op.load 27 (Operand.tmp 1), type := _, pos := _, after := _, guard := _ } :: _) _ _); refine armL (.tmp 1) 27 rfl rfl rfl HLD.out ?_)
    | ((with_reducible show wpList _ _ _ ({ dst := _, op := Op.store 27 (Operand.tmp 2) (Operand.tmp 19), type := _, pos := _, after := _, guard := _ } :: _) _ _); refine armS (.tmp 2) (Operand.tmp 19) 27 rfl rfl rfl rfl HS3.out ?_; simp only [Act.put])
  refine bodyPost_ret (res1t rfl rfl HRES.out) rfl ?_
  exact ⟨_, _, rfl, HR1.out, HR2.out, HFIN.out⟩

theorem cut_calls (f : Fd) (mf : Bool) (off : Int) (so sb : Value) (opts body : List Int) (w0 w : World) (h1 : RowC w0 so opts) (h2 : RowC w0 sb body) :
    Calls Tryz.prog 9 #[VV f mf off so sb] w fun e w' => ∃ so' sb', e = .returned (VV f mf off so' sb') ∧ RowC w0 so' (opts.take 100) ∧ RowC w0 sb' (body.take 66000) ∧ Below w.heap.size w w' := by
  by_cases q1 : 66000 < body.length <;> by_cases q2 : 100 < opts.length
  · exact cut_11 f mf off so sb opts body w0 w h1 h2 q2 q1
  · exact cut_10 f mf off so sb opts body w0 w h1 h2 q2 q1
  · exact cut_01 f mf off so sb opts body w0 w h1 h2 q2 q1
  · exact cut_00 f mf off so sb opts body w0 w h1 h2 q2 q1

structure FdIn (f : Fd) : Prop where
  hid : 0 ≤ f.id ∧ f.id ≤ 65535
  ft : 0 ≤ f.tos ∧ f.tos < 256
  fl : 0 ≤ f.ttl ∧ f.ttl < 256
  fp : 0 ≤ f.proto ∧ f.proto < 256
  fs : Fit [f.s0, f.s1, f.s2, f.s3]
  fd : Fit [f.d0, f.d1, f.d2, f.d3]
theorem open_bytes2 {H : Type} {enc : TypeId × Value → H} {W : World} {fuel : Nat} {cs : List Value} {x : DataW H × List MemPlace} (h : DataW.trod enc Tryz.prog W 0 (fun _ => true) true fuel 25 cs = some x) (hz : ∀ k ∈ x.1.weights Tryz.prog 25, k ≤ reachBytes) :
    ∃ v zs, cs = [v] ∧ RowC W v zs := by
  obtain ⟨v, zs, hcs, hb⟩ := open_bytes1 h hz
  refine ⟨v, zs, hcs, ?_⟩
  rcases open_ints Tryz.underlying25 Tryz.underlying5 (by kernel_rfl) h with ⟨e, _⟩ | ⟨a, len, cap, zs', e, _, hl, hm, _⟩
  · rw [e] at hcs
    simp at hcs
    subst hcs
    exact .of_bytes hb (Nat.le_refl _)
  · rw [e] at hcs
    simp at hcs
    subst hcs
    exact .of_bytes hb (by omega)
set_option maxRecDepth 100000 in
theorem open_dg {H : Type} {enc : TypeId × Value → H} {W : World} {v : Value} {d : DataW H} {p : List MemPlace} (h : DataW.Trod enc Tryz.prog W 0 (fun _ => true) true 27 v d p) (hz : ∀ k ∈ d.weights Tryz.prog 27, k ≤ reachBytes) :
    ∃ f mf off so sb opts body, v = VV f mf off so sb ∧ FdIn f ∧ RowC W so opts ∧ RowC W sb body ∧ (-9223372036854775808 ≤ off ∧ off ≤ 9223372036854775807) := by
  obtain ⟨fuel, hf⟩ := h
  obtain ⟨xs, m, _, hx, hl, hxl, hi⟩ := DataW.trod_struct Tryz.underlying27 hf
  have c17 : Tryz.prog.cellsOf 27 = 17 := by kernel_rfl
  rw [c17] at hl
  obtain ⟨x0, x1, x2, x3, x4, x5, x6, x7, x8, x9, x10, rfl⟩ := V4.list11 hxl
  have g0 : DataW.trod enc Tryz.prog W 0 (fun _ => true) true m 5 ((v.cells.toList.drop 0).take 1) = some x0 := by
    have e : DataW.trod enc Tryz.prog W 0 (fun _ => true) true m 5 ((v.cells.toList.drop 0).take (Tryz.prog.cellsOf 5)) = some x0 := hi 0 _ rfl
    rwa [show Tryz.prog.cellsOf 5 = 1 by kernel_rfl] at e
  have g1 : DataW.trod enc Tryz.prog W 0 (fun _ => true) true m 22 ((v.cells.toList.drop 1).take 1) = some x1 := by
    have e : DataW.trod enc Tryz.prog W 0 (fun _ => true) true m 22 ((v.cells.toList.drop 1).take (Tryz.prog.cellsOf 22)) = some x1 := hi 1 _ rfl
    rwa [show Tryz.prog.cellsOf 22 = 1 by kernel_rfl] at e
  have g2 : DataW.trod enc Tryz.prog W 0 (fun _ => true) true m 4 ((v.cells.toList.drop 2).take 1) = some x2 := by
    have e : DataW.trod enc Tryz.prog W 0 (fun _ => true) true m 4 ((v.cells.toList.drop 2).take (Tryz.prog.cellsOf 4)) = some x2 := hi 2 _ rfl
    rwa [show Tryz.prog.cellsOf 4 = 1 by kernel_rfl] at e
  have g3 : DataW.trod enc Tryz.prog W 0 (fun _ => true) true m 4 ((v.cells.toList.drop 3).take 1) = some x3 := by
    have e : DataW.trod enc Tryz.prog W 0 (fun _ => true) true m 4 ((v.cells.toList.drop 3).take (Tryz.prog.cellsOf 4)) = some x3 := hi 3 _ rfl
    rwa [show Tryz.prog.cellsOf 4 = 1 by kernel_rfl] at e
  have g4 : DataW.trod enc Tryz.prog W 0 (fun _ => true) true m 3 ((v.cells.toList.drop 4).take 1) = some x4 := by
    have e : DataW.trod enc Tryz.prog W 0 (fun _ => true) true m 3 ((v.cells.toList.drop 4).take (Tryz.prog.cellsOf 3)) = some x4 := hi 4 _ rfl
    rwa [show Tryz.prog.cellsOf 3 = 1 by kernel_rfl] at e
  have g5 : DataW.trod enc Tryz.prog W 0 (fun _ => true) true m 5 ((v.cells.toList.drop 5).take 1) = some x5 := by
    have e : DataW.trod enc Tryz.prog W 0 (fun _ => true) true m 5 ((v.cells.toList.drop 5).take (Tryz.prog.cellsOf 5)) = some x5 := hi 5 _ rfl
    rwa [show Tryz.prog.cellsOf 5 = 1 by kernel_rfl] at e
  have g6 : DataW.trod enc Tryz.prog W 0 (fun _ => true) true m 5 ((v.cells.toList.drop 6).take 1) = some x6 := by
    have e : DataW.trod enc Tryz.prog W 0 (fun _ => true) true m 5 ((v.cells.toList.drop 6).take (Tryz.prog.cellsOf 5)) = some x6 := hi 6 _ rfl
    rwa [show Tryz.prog.cellsOf 5 = 1 by kernel_rfl] at e
  have g7 : DataW.trod enc Tryz.prog W 0 (fun _ => true) true m 24 ((v.cells.toList.drop 7).take 4) = some x7 := by
    have e : DataW.trod enc Tryz.prog W 0 (fun _ => true) true m 24 ((v.cells.toList.drop 7).take (Tryz.prog.cellsOf 24)) = some x7 := hi 7 _ rfl
    rwa [show Tryz.prog.cellsOf 24 = 4 by kernel_rfl] at e
  have g8 : DataW.trod enc Tryz.prog W 0 (fun _ => true) true m 24 ((v.cells.toList.drop 11).take 4) = some x8 := by
    have e : DataW.trod enc Tryz.prog W 0 (fun _ => true) true m 24 ((v.cells.toList.drop 11).take (Tryz.prog.cellsOf 24)) = some x8 := hi 8 _ rfl
    rwa [show Tryz.prog.cellsOf 24 = 4 by kernel_rfl] at e
  have g9 : DataW.trod enc Tryz.prog W 0 (fun _ => true) true m 25 ((v.cells.toList.drop 15).take 1) = some x9 := by
    have e : DataW.trod enc Tryz.prog W 0 (fun _ => true) true m 25 ((v.cells.toList.drop 15).take (Tryz.prog.cellsOf 25)) = some x9 := hi 9 _ rfl
    rwa [show Tryz.prog.cellsOf 25 = 1 by kernel_rfl] at e
  have g10 : DataW.trod enc Tryz.prog W 0 (fun _ => true) true m 25 ((v.cells.toList.drop 16).take 1) = some x10 := by
    have e : DataW.trod enc Tryz.prog W 0 (fun _ => true) true m 25 ((v.cells.toList.drop 16).take (Tryz.prog.cellsOf 25)) = some x10 := hi 10 _ rfl
    rwa [show Tryz.prog.cellsOf 25 = 1 by kernel_rfl] at e
  obtain ⟨rfl, rfl⟩ := Prod.mk.inj hx
  have w9 : ∀ k ∈ x9.1.weights Tryz.prog 25, k ≤ reachBytes := fun k hk => hz k (by
    simp only [DataW.weights, Tryz.underlying27]
    exact DataW.weights_mem_each (j := 9) rfl rfl k hk)
  have w10 : ∀ k ∈ x10.1.weights Tryz.prog 25, k ≤ reachBytes := fun k hk => hz k (by
    simp only [DataW.weights, Tryz.underlying27]
    exact DataW.weights_mem_each (j := 10) rfl rfl k hk)
  obtain ⟨tos, e0, _, f0⟩ := DataW.trod_int Tryz.underlying5 g0
  obtain ⟨id, e1, _, f1⟩ := DataW.trod_int Tryz.underlying22 g1
  obtain ⟨df, e2, _⟩ := DataW.trod_bool Tryz.underlying4 g2
  obtain ⟨mf, e3, _⟩ := DataW.trod_bool Tryz.underlying4 g3
  obtain ⟨off, e4, _, f4⟩ := DataW.trod_int Tryz.underlying3 g4
  obtain ⟨ttl, e5, _, f5⟩ := DataW.trod_int Tryz.underlying5 g5
  obtain ⟨proto, e6, _, f6⟩ := DataW.trod_int Tryz.underlying5 g6
  obtain ⟨s0, s1, s2, s3, e7, f7⟩ := cells_arr4 g7
  obtain ⟨d0, d1, d2, d3, e8, f8⟩ := cells_arr4 g8
  obtain ⟨so, opts, e9, b9⟩ := open_bytes2 g9 w9
  obtain ⟨sb, body, e10, b10⟩ := open_bytes2 g10 w10
  have hall := V4.seventeen hl
  rw [e0, e1, e2, e3, e4, e5, e6, e7, e8, e9, e10] at hall
  have hv := agg_cells hall (by simp)
  have q0 := bounds_u8 f0
  have q5 := bounds_u8 f5
  have q6 := bounds_u8 f6
  have q1 : 0 ≤ id ∧ id ≤ 65535 := bounds_u16 f1
  have q4 := bounds_i64 f4
  have p0 : 0 ≤ tos ∧ tos < 256 := by omega
  have p5 : 0 ≤ ttl ∧ ttl < 256 := by omega
  have p6 : 0 ≤ proto ∧ proto < 256 := by omega
  exact ⟨⟨tos, id, df, ttl, proto, s0, s1, s2, s3, d0, d1, d2, d3⟩, mf, off, so, sb, opts, body, hv, ⟨q1, p0, p5, p6, f7, f8⟩, b9, b10, q4⟩
end Go.Proofs.YtnjkagopmfenkaaGreat
