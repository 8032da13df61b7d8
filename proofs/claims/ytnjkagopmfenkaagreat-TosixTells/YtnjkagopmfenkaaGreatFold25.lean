/-
  A datagram of IPv4 as an argument: its fields, its box, cut of the statements of layer 17.
  What must hold, what catches, answer of package tosix; next, leastBody.
  The known datagram of UDP: what reckoned gives.
  The known datagram of UDP: its body.
-/
import Derived.Test.YtnjkagopmfenkaaGreatFold05
import Derived.Test.YtnjkagopmfenkaaGreatFold23
import Derived.Test.YtnjkagopmfenkaaGreatFold08
import Derived.Test.YtnjkagopmfenkaaGreatFold00
import Derived.Test.YtnjkagopmfenkaaGreatFold18
import Derived.Test.YtnjkagopmfenkaaGreatFold15
import Derived.Defers
import Derived.Recover
import Derived.Deep.QuietTactic
import Derived.BigQuiet
namespace Go.Proofs.YtnjkagopmfenkaaGreat
open Go Go.RowKit Go.ChangeShapes Go.WideShapes Go.ChangeAt
set_option linter.unusedVariables false
set_option linter.unusedSimpArgs false

structure Fd where
  tos : Int
  id : Int
  df : Bool
  ttl : Int
  proto : Int
  s0 : Int
  s1 : Int
  s2 : Int
  s3 : Int
  d0 : Int
  d1 : Int
  d2 : Int
  d3 : Int
def vC (f : Fd) (mf : Bool) (off : Int) (so sb : Value) : List Value :=
  [.int .u8 f.tos, .int .u16 f.id, .bool f.df, .bool mf, .int .i64 off, .int .u8 f.ttl, .int .u8 f.proto, .int .u8 f.s0, .int .u8 f.s1, .int .u8 f.s2, .int .u8 f.s3, .int .u8 f.d0, .int .u8 f.d1, .int .u8 f.d2, .int .u8 f.d3, so, sb]
abbrev VV (f : Fd) (mf : Bool) (off : Int) (so sb : Value) : Value := .agg (vC f mf off so sb).toArray
abbrev BV (f : Fd) (mf : Bool) (off : Int) (so sb : Value) : Obj := .cells (vC f mf off so sb).toArray 27
theorem vC_len (f : Fd) (mf : Bool) (off : Int) (so sb : Value) : (vC f mf off so sb).length = 17 := rfl
theorem vC_one (f : Fd) (mf : Bool) (off : Int) {so sb : Value} (h1 : so.oneCell' = true) (h2 : sb.oneCell' = true) : ∀ v ∈ vC f mf off so sb, v.oneCell' = true := by
  intro v hv
  simp only [vC, List.mem_cons, List.not_mem_nil, or_false] at hv
  rcases hv with rfl | rfl | rfl | rfl | rfl | rfl | rfl | rfl | rfl | rfl | rfl | rfl | rfl | rfl | rfl | rfl | rfl <;> first | rfl | assumption
theorem BS.one {S : Nat → Prop} {w : World} {v : Value} {zs : List Int} (h : BS S w v zs) : v.oneCell' = true := by
  obtain ⟨_, _, a, cap, rfl, _⟩ := h.row
  rfl
section
variable {W : World} {b : Nat} {f : Fd} {mf : Bool} {off : Int} {so sb : Value}
theorem vb_load (h : W.heap[b]? = some (BV f mf off so sb)) : (Instr.loadAt 27 (.pointer (some ⟨b, 0, none⟩))).run Tryz.prog W = .ok (VV f mf off so sb) W :=
  agg_load Tryz.isAgg27 Tryz.sizeOf27 (vC_len ..) (CellsAt.of_blk h)
theorem vb2 (h : W.heap[b]? = some (BV f mf off so sb)) : W.cell? ⟨b, 2, none⟩ = some (.bool f.df) := blk_cell h rfl
theorem vb3 (h : W.heap[b]? = some (BV f mf off so sb)) : W.cell? ⟨b, 3, none⟩ = some (.bool mf) := blk_cell h rfl
theorem vb4 (h : W.heap[b]? = some (BV f mf off so sb)) : W.cell? ⟨b, 4, none⟩ = some (.int .i64 off) := blk_cell h rfl
theorem vb15 (h : W.heap[b]? = some (BV f mf off so sb)) : W.cell? ⟨b, 15, none⟩ = some so := blk_cell h rfl
theorem vb16 (h : W.heap[b]? = some (BV f mf off so sb)) : W.cell? ⟨b, 16, none⟩ = some sb := blk_cell h rfl
theorem vs3 (h : W.heap[b]? = some (BV f mf off so sb)) (x : Bool) : (W.setCell ⟨b, 3, none⟩ (.bool x)).heap[b]? = some (BV f x off so sb) := blk_set h 3 _
theorem vs4 (h : W.heap[b]? = some (BV f mf off so sb)) (x : Int) : (W.setCell ⟨b, 4, none⟩ (.int .i64 x)).heap[b]? = some (BV f mf x so sb) := blk_set h 4 _
theorem vs15 (h : W.heap[b]? = some (BV f mf off so sb)) (x : Value) : (W.setCell ⟨b, 15, none⟩ x).heap[b]? = some (BV f mf off x sb) := blk_set h 15 _
theorem vs16 (h : W.heap[b]? = some (BV f mf off so sb)) (x : Value) : (W.setCell ⟨b, 16, none⟩ x).heap[b]? = some (BV f mf off so x) := blk_set h 16 _
end
def zeroV : List Value := [.int .u8 0, .int .u16 0, .bool false, .bool false, .int .i64 0, .int .u8 0, .int .u8 0, .int .u8 0, .int .u8 0, .int .u8 0, .int .u8 0, .int .u8 0, .int .u8 0, .int .u8 0, .int .u8 0, .slice none 0 0, .slice none 0 0]
theorem vb_lens {w : World} {f : Fd} {mf : Bool} {off : Int} {so sb : Value} {o b : List Int} (h1 : RowC w so o) (h2 : RowC w sb b) (hb : -9223372036854775808 ≤ off ∧ off ≤ 9223372036854775807) : V4.Lens (vC f mf off so sb) off o.length b.length := by
  obtain ⟨_, l1, a1, c1, rfl, _⟩ := h1
  obtain ⟨_, l2, a2, c2, rfl, _⟩ := h2
  exact ⟨rfl, rfl, ⟨_, _, rfl⟩, ⟨_, _, rfl⟩, hb, l1, l2⟩
theorem st_row {W : World} {b j : Nat} {c : List Value} {t : TypeId} (h : W.heap[b]? = some (.cells c.toArray t)) (hj : j < c.length) {v : Value} (hv : ∃ x n m, v = .slice x n m) : (Instr.storeAt 25 (.pointer (some ⟨b, j, none⟩)) v).run Tryz.prog W = .ok () (W.setCell ⟨b, j, none⟩ v) := by
  obtain ⟨x, n, m, rfl⟩ := hv
  have h1 : W.cell? ⟨b, j, none⟩ = some (c[j]'hj) := blk_cell h (by simp)
  have h2 := blk_open h j
  simp [Instr.storeAt, go_sem, h1, h2]
theorem BS.slc {S : Nat → Prop} {w : World} {v : Value} {zs : List Int} (h : BS S w v zs) : ∃ x n m, v = .slice x n m := by
  obtain ⟨_, _, a, cap, e, _⟩ := h.row
  exact ⟨_, _, _, e⟩
theorem armL {P : Program} {w : World} {ops : Array Oper} {rest : List Oper} {o : Oper} {a : Act} {Q : Exit → Act → World → Prop} (p : Operand) (t : TypeId) (hop : o.op = Op.load t p) (hg : o.guard = none) {vp v : Value} (hp : a.eval p = vp) (hrun : (Instr.loadAt t vp).run P w = .ok v w) (hK : wpList P ops Q rest (a.put o.dst v) w) : wpList P ops Q (o :: rest) a w :=
  arm_load (by simp [Region.wanted, hg]) p t hop hp hrun hK
theorem armS {P : Program} {w w2 : World} {ops : Array Oper} {rest : List Oper} {o : Oper} {a : Act} {Q : Exit → Act → World → Prop} (p x : Operand) (t : TypeId) (hop : o.op = Op.store t p x) (hg : o.guard = none) {vp vx : Value} (hp : a.eval p = vp) (hx : a.eval x = vx) (hrun : (Instr.storeAt t vp vx).run P w = .ok () w2) (hK : wpList P ops Q rest (a.put o.dst (.tuple #[])) w2) : wpList P ops Q (o :: rest) a w :=
  arm_store (by simp [Region.wanted, hg]) p x t hop hp hx hrun hK
theorem blk_two (w : World) (o1 o2 : Obj) : ((w.alloc o1).alloc o2).heap[w.heap.size]? = some o1 ∧ ((w.alloc o1).alloc o2).heap[w.heap.size + 1]? = some o2 ∧ Below w.heap.size w ((w.alloc o1).alloc o2) ∧ ((w.alloc o1).alloc o2).heap.size = w.heap.size + 2 := by
  refine ⟨blk_alloc (blk_new w o1) o2, ?_, ((Below.refl w.heap.size w).alloc (Nat.le_refl _) o1).alloc (by simp) o2, by simp⟩
  have := blk_new (w.alloc o1) o2
  rwa [show (w.alloc o1).heap.size = w.heap.size + 1 by simp] at this
section
variable {W : World} {b : Nat} {f : Fd} {mf : Bool} {off : Int} {so sb : Value}
theorem put15 (h : W.heap[b]? = some (BV f mf off so sb)) {v : Value} (hv : ∃ x n m, v = .slice x n m) : ∃ W', (Instr.storeAt 25 (.pointer (some ⟨b, 15, none⟩)) v).run Tryz.prog W = .ok () W' ∧ W'.heap[b]? = some (BV f mf off v sb) ∧ Only b W W' := ⟨_, st_row h (show 15 < 17 by decide) hv, vs15 h v, (Only.refl _ _).set 15 _⟩
theorem put16 (h : W.heap[b]? = some (BV f mf off so sb)) {v : Value} (hv : ∃ x n m, v = .slice x n m) : ∃ W', (Instr.storeAt 25 (.pointer (some ⟨b, 16, none⟩)) v).run Tryz.prog W = .ok () W' ∧ W'.heap[b]? = some (BV f mf off so v) ∧ Only b W W' := ⟨_, st_row h (show 16 < 17 by decide) hv, vs16 h v, (Only.refl _ _).set 16 _⟩
end
set_option maxHeartbeats 2000000 in
set_option maxRecDepth 100000 in
theorem cut_00 (f : Fd) (mf : Bool) (off : Int) (so sb : Value) (opts body : List Int) (w0 w : World) (h1 : RowC w0 so opts) (h2 : RowC w0 sb body) (q2 : ¬ 100 < opts.length) (q1 : ¬ 66000 < body.length) :
    Calls Tryz.prog 9 #[VV f mf off so sb] w fun e w' => ∃ so' sb', e = .returned (VV f mf off so' sb') ∧ RowC w0 so' (opts.take 100) ∧ RowC w0 sb' (body.take 66000) ∧ Below w.heap.size w w' := by
  have s1 : so.oneCell' = true := (BS.of_row h1).one
  have s2 : sb.oneCell' = true := (BS.of_row h2).one
  have HR1 : Hid (RowC w0 so (opts.take 100)) := by show RowC _ _ _; rw [List.take_of_length_le (by omega)]; exact h1
  have s1' := s1
  have HR2 : Hid (RowC w0 sb (body.take 66000)) := by show RowC _ _ _; rw [List.take_of_length_le (by omega)]; exact h2
  have s2' := s2
  obtain ⟨a1, c1, e1⟩ : ∃ a c, so = .slice a opts.length c := by obtain ⟨_, _, a, cap, e, _⟩ := h1; exact ⟨_, _, e⟩
  obtain ⟨a2, c2, e2⟩ : ∃ a c, sb = .slice a body.length c := by obtain ⟨_, _, a, cap, e, _⟩ := h2; exact ⟨_, _, e⟩
  have hl1 := h1.len
  have hl2 := h2.len
  obtain ⟨hb0, hr0, hB0, hs0⟩ := blk_two w (BV f mf off so sb) (.cells zeroV.toArray 27)
  have d16 := vb16 hb0
  rw [e2] at d16
  rw [← e2] at d16
  have d15 := vb15 hb0
  obtain ⟨W3, hst3, hbx3, hon3⟩ := box_store Tryz.sizeOf27 hr0 rfl (vC f mf off so sb) rfl (vC_one f mf off s1' s2')
  have HFIN : Hid (Below w.heap.size w W3) := hB0.trans (hon3.below (by omega))
  have HRES : Hid _ := agg_loadVar (t := 27) Tryz.isAgg27 Tryz.sizeOf27 (vC_len f mf off so sb) (CellsAt.of_blk hbx3)
  have hld := vb_load hb0
  unfold zeroV at hld hst3
  have HLD : Hid _ := hld
  have HS3 : Hid _ := hst3
  have hB0 := hB0
  unfold zeroV at d16
  unfold zeroV at d15
  subst e1 e2
  clear hld hst3 hbx3 hon3 hb0 hr0 hB0 hs0 h1 h2
  generalize opts.length = no at *
  generalize body.length = nb at *
  go_enter Tryz.func9, Tryz.ntmps9
  go_wp2_with first
    | ((with_reducible show wpList _ _ _ ({ dst := _, op := Op.load 27 (Operand.tmp 1), type := _, pos := _, after := _, guard := _ } :: _) _ _); refine armL (.tmp 1) 27 rfl rfl rfl HLD.out ?_)
    | ((with_reducible show wpList _ _ _ ({ dst := _, op := Op.store 27 (Operand.tmp 2) (Operand.tmp 19), type := _, pos := _, after := _, guard := _ } :: _) _ _); refine armS (.tmp 2) (Operand.tmp 19) 27 rfl rfl rfl rfl HS3.out ?_; simp only [Act.put])
  refine bodyPost_ret (res1t rfl rfl HRES.out) rfl ?_
  exact ⟨_, _, rfl, HR1.out, HR2.out, HFIN.out⟩

set_option maxHeartbeats 2000000 in
set_option maxRecDepth 100000 in
theorem cut_01 (f : Fd) (mf : Bool) (off : Int) (so sb : Value) (opts body : List Int) (w0 w : World) (h1 : RowC w0 so opts) (h2 : RowC w0 sb body) (q2 : 100 < opts.length) (q1 : ¬ 66000 < body.length) :
    Calls Tryz.prog 9 #[VV f mf off so sb] w fun e w' => ∃ so' sb', e = .returned (VV f mf off so' sb') ∧ RowC w0 so' (opts.take 100) ∧ RowC w0 sb' (body.take 66000) ∧ Below w.heap.size w w' := by
  have s1 : so.oneCell' = true := (BS.of_row h1).one
  have s2 : sb.oneCell' = true := (BS.of_row h2).one
  obtain ⟨so', hu1, hr1⟩ := cut_front h1.cons (by omega) 100 (by omega)
  have hs1 := hr1.slc
  have HR1 : Hid (RowC w0 so' (opts.take 100)) := hr1.row
  have HU1 : Hid _ := hu1
  have s1' := hr1.one
  clear hu1 hr1
  have HR2 : Hid (RowC w0 sb (body.take 66000)) := by show RowC _ _ _; rw [List.take_of_length_le (by omega)]; exact h2
  have s2' := s2
  obtain ⟨a1, c1, e1⟩ : ∃ a c, so = .slice a opts.length c := by obtain ⟨_, _, a, cap, e, _⟩ := h1; exact ⟨_, _, e⟩
  obtain ⟨a2, c2, e2⟩ : ∃ a c, sb = .slice a body.length c := by obtain ⟨_, _, a, cap, e, _⟩ := h2; exact ⟨_, _, e⟩
  have hl1 := h1.len
  have hl2 := h2.len
  obtain ⟨hb0, hr0, hB0, hs0⟩ := blk_two w (BV f mf off so sb) (.cells zeroV.toArray 27)
  have d16 := vb16 hb0
  rw [e2] at d16
  rw [← e2] at d16
  have d15 := vb15 hb0
  obtain ⟨W2, hst2, hb2, hon2⟩ := put15 hb0 hs1
  have hr2 := (hon2.other (w.heap.size + 1) (by omega)).trans hr0
  have hB2 := hB0.trans (hon2.below (Nat.le_refl _))
  unfold zeroV at hst2
  have HS2 : Hid _ := hst2
  clear hst2 hon2
  obtain ⟨W3, hst3, hbx3, hon3⟩ := box_store Tryz.sizeOf27 hr2 rfl (vC f mf off so' sb) rfl (vC_one f mf off s1' s2')
  have HFIN : Hid (Below w.heap.size w W3) := hB2.trans (hon3.below (by omega))
  have HRES : Hid _ := agg_loadVar (t := 27) Tryz.isAgg27 Tryz.sizeOf27 (vC_len f mf off so' sb) (CellsAt.of_blk hbx3)
  have hld := vb_load hb2
  
  have HLD : Hid _ := hld
  have HS3 : Hid _ := hst3
  unfold zeroV at d16
  unfold zeroV at d15
  subst e1 e2
  clear hld hst3 hbx3 hon3 hb0 hr0 hB0 hs0 h1 h2 hb2 hr2 hB2
  generalize opts.length = no at *
  generalize body.length = nb at *
  go_enter Tryz.func9, Tryz.ntmps9
  go_wp2_with first
    | ((with_reducible show wpList _ _ _ ({ dst := _, op := Op.slice 25 (Operand.tmp 16) none (some (Operand.const (Value.int IntKind.i64 100))) none, type := _, pos := _, after := _, guard := _ } :: _) _ _); refine arm_slice rfl 25 (.tmp 16) none (some (.const (.int .i64 100))) rfl rfl rfl rfl (HU1.out _) ?_)
    | ((with_reducible show wpList _ _ _ ({ dst := _, op := Op.store 25 (Operand.tmp 18) (Operand.tmp 17), type := _, pos := _, after := _, guard := _ } :: _) _ _); refine armS (.tmp 18) (Operand.tmp 17) 25 rfl rfl rfl rfl HS2.out ?_; simp only [Act.put])
    | ((with_reducible show wpList _ _ _ ({ dst := _, op := Op.load 27 (Operand.tmp 1), type := _, pos := _, after := _, guard := _ } :: _) _ _); refine armL (.tmp 1) 27 rfl rfl rfl HLD.out ?_)
    | ((with_reducible show wpList _ _ _ ({ dst := _, op := Op.store 27 (Operand.tmp 2) (Operand.tmp 19), type := _, pos := _, after := _, guard := _ } :: _) _ _); refine armS (.tmp 2) (Operand.tmp 19) 27 rfl rfl rfl rfl HS3.out ?_; simp only [Act.put])
  refine bodyPost_ret (res1t rfl rfl HRES.out) rfl ?_
  exact ⟨_, _, rfl, HR1.out, HR2.out, HFIN.out⟩

set_option maxHeartbeats 2000000 in
set_option maxRecDepth 100000 in
theorem cut_10 (f : Fd) (mf : Bool) (off : Int) (so sb : Value) (opts body : List Int) (w0 w : World) (h1 : RowC w0 so opts) (h2 : RowC w0 sb body) (q2 : ¬ 100 < opts.length) (q1 : 66000 < body.length) :
    Calls Tryz.prog 9 #[VV f mf off so sb] w fun e w' => ∃ so' sb', e = .returned (VV f mf off so' sb') ∧ RowC w0 so' (opts.take 100) ∧ RowC w0 sb' (body.take 66000) ∧ Below w.heap.size w w' := by
  have s1 : so.oneCell' = true := (BS.of_row h1).one
  have s2 : sb.oneCell' = true := (BS.of_row h2).one
  have HR1 : Hid (RowC w0 so (opts.take 100)) := by show RowC _ _ _; rw [List.take_of_length_le (by omega)]; exact h1
  have s1' := s1
  obtain ⟨sb', hu2, hr2⟩ := cut_front h2.cons (by omega) 66000 (by omega)
  have hs2 := hr2.slc
  have HR2 : Hid (RowC w0 sb' (body.take 66000)) := hr2.row
  have HU2 : Hid _ := hu2
  have s2' := hr2.one
  clear hu2 hr2
  obtain ⟨a1, c1, e1⟩ : ∃ a c, so = .slice a opts.length c := by obtain ⟨_, _, a, cap, e, _⟩ := h1; exact ⟨_, _, e⟩
  obtain ⟨a2, c2, e2⟩ : ∃ a c, sb = .slice a body.length c := by obtain ⟨_, _, a, cap, e, _⟩ := h2; exact ⟨_, _, e⟩
  have hl1 := h1.len
  have hl2 := h2.len
  obtain ⟨hb0, hr0, hB0, hs0⟩ := blk_two w (BV f mf off so sb) (.cells zeroV.toArray 27)
  have d16 := vb16 hb0
  rw [e2] at d16
  rw [← e2] at d16
  obtain ⟨W1, hst1, hb1, hon1⟩ := put16 hb0 hs2
  have hr1 := (hon1.other (w.heap.size + 1) (by omega)).trans hr0
  have hB1 := hB0.trans (hon1.below (Nat.le_refl _))
  unfold zeroV at hst1
  have HS1 : Hid _ := hst1
  clear hst1 hon1
  have d15 := vb15 hb1
  obtain ⟨W3, hst3, hbx3, hon3⟩ := box_store Tryz.sizeOf27 hr1 rfl (vC f mf off so sb') rfl (vC_one f mf off s1' s2')
  have HFIN : Hid (Below w.heap.size w W3) := hB1.trans (hon3.below (by omega))
  have HRES : Hid _ := agg_loadVar (t := 27) Tryz.isAgg27 Tryz.sizeOf27 (vC_len f mf off so sb') (CellsAt.of_blk hbx3)
  have hld := vb_load hb1
  
  have HLD : Hid _ := hld
  have HS3 : Hid _ := hst3
  unfold zeroV at d16
  subst e1 e2
  clear hld hst3 hbx3 hon3 hb0 hr0 hB0 hs0 h1 h2 hb1 hr1 hB1
  generalize opts.length = no at *
  generalize body.length = nb at *
  go_enter Tryz.func9, Tryz.ntmps9
  go_wp2_with first
    | ((with_reducible show wpList _ _ _ ({ dst := _, op := Op.slice 25 (Operand.tmp 8) none (some (Operand.const (Value.int IntKind.i64 66000))) none, type := _, pos := _, after := _, guard := _ } :: _) _ _); refine arm_slice rfl 25 (.tmp 8) none (some (.const (.int .i64 66000))) rfl rfl rfl rfl (HU2.out _) ?_)
    | ((with_reducible show wpList _ _ _ ({ dst := _, op := Op.store 25 (Operand.tmp 10) (Operand.tmp 9), type := _, pos := _, after := _, guard := _ } :: _) _ _); refine armS (.tmp 10) (Operand.tmp 9) 25 rfl rfl rfl rfl HS1.out ?_; simp only [Act.put])
    | ((with_reducible show wpList _ _ _ ({ dst := _, op := Op.load 27 (Operand.tmp 1), type := _, pos := _, after := _, guard := _ } :: _) _ _); refine armL (.tmp 1) 27 rfl rfl rfl HLD.out ?_)
    | ((with_reducible show wpList _ _ _ ({ dst := _, op := Op.store 27 (Operand.tmp 2) (Operand.tmp 19), type := _, pos := _, after := _, guard := _ } :: _) _ _); refine armS (.tmp 2) (Operand.tmp 19) 27 rfl rfl rfl rfl HS3.out ?_; simp only [Act.put])
  refine bodyPost_ret (res1t rfl rfl HRES.out) rfl ?_
  exact ⟨_, _, rfl, HR1.out, HR2.out, HFIN.out⟩

set_option maxHeartbeats 2000000 in
set_option maxRecDepth 100000 in
theorem cut_11 (f : Fd) (mf : Bool) (off : Int) (so sb : Value) (opts body : List Int) (w0 w : World) (h1 : RowC w0 so opts) (h2 : RowC w0 sb body) (q2 : 100 < opts.length) (q1 : 66000 < body.length) :
    Calls Tryz.prog 9 #[VV f mf off so sb] w fun e w' => ∃ so' sb', e = .returned (VV f mf off so' sb') ∧ RowC w0 so' (opts.take 100) ∧ RowC w0 sb' (body.take 66000) ∧ Below w.heap.size w w' := by
  have s1 : so.oneCell' = true := (BS.of_row h1).one
  have s2 : sb.oneCell' = true := (BS.of_row h2).one
  obtain ⟨so', hu1, hr1⟩ := cut_front h1.cons (by omega) 100 (by omega)
  have hs1 := hr1.slc
  have HR1 : Hid (RowC w0 so' (opts.take 100)) := hr1.row
  have HU1 : Hid _ := hu1
  have s1' := hr1.one
  clear hu1 hr1
  obtain ⟨sb', hu2, hr2⟩ := cut_front h2.cons (by omega) 66000 (by omega)
  have hs2 := hr2.slc
  have HR2 : Hid (RowC w0 sb' (body.take 66000)) := hr2.row
  have HU2 : Hid _ := hu2
  have s2' := hr2.one
  clear hu2 hr2
  obtain ⟨a1, c1, e1⟩ : ∃ a c, so = .slice a opts.length c := by obtain ⟨_, _, a, cap, e, _⟩ := h1; exact ⟨_, _, e⟩
  obtain ⟨a2, c2, e2⟩ : ∃ a c, sb = .slice a body.length c := by obtain ⟨_, _, a, cap, e, _⟩ := h2; exact ⟨_, _, e⟩
  have hl1 := h1.len
  have hl2 := h2.len
  obtain ⟨hb0, hr0, hB0, hs0⟩ := blk_two w (BV f mf off so sb) (.cells zeroV.toArray 27)
  have d16 := vb16 hb0
  rw [e2] at d16
  rw [← e2] at d16
  obtain ⟨W1, hst1, hb1, hon1⟩ := put16 hb0 hs2
  have hr1 := (hon1.other (w.heap.size + 1) (by omega)).trans hr0
  have hB1 := hB0.trans (hon1.below (Nat.le_refl _))
  unfold zeroV at hst1
  have HS1 : Hid _ := hst1
  clear hst1 hon1
  have d15 := vb15 hb1
  obtain ⟨W2, hst2, hb2, hon2⟩ := put15 hb1 hs1
  have hr2 := (hon2.other (w.heap.size + 1) (by omega)).trans hr1
  have hB2 := hB1.trans (hon2.below (Nat.le_refl _))
  have HS2 : Hid _ := hst2
  clear hst2 hon2
  obtain ⟨W3, hst3, hbx3, hon3⟩ := box_store Tryz.sizeOf27 hr2 rfl (vC f mf off so' sb') rfl (vC_one f mf off s1' s2')
  have HFIN : Hid (Below w.heap.size w W3) := hB2.trans (hon3.below (by omega))
  have HRES : Hid _ := agg_loadVar (t := 27) Tryz.isAgg27 Tryz.sizeOf27 (vC_len f mf off so' sb') (CellsAt.of_blk hbx3)
  have hld := vb_load hb2
  
  have HLD : Hid _ := hld
  have HS3 : Hid _ := hst3
  unfold zeroV at d16
  subst e1 e2
  clear hld hst3 hbx3 hon3 hb0 hr0 hB0 hs0 h1 h2 hb1 hr1 hB1 hb2 hr2 hB2
  generalize opts.length = no at *
  generalize body.length = nb at *
  go_enter Tryz.func9, Tryz.ntmps9
  go_wp2_with first
    | ((with_reducible show wpList _ _ _ ({ dst := _, op := Op.slice 25 (Operand.tmp 8) none (some (Operand.const (Value.int IntKind.i64 66000))) none, type := _, pos := _, after := _, guard := _ } :: _) _ _); refine arm_slice rfl 25 (.tmp 8) none (some (.const (.int .i64 66000))) rfl rfl rfl rfl (HU2.out _) ?_)
    | ((with_reducible show wpList _ _ _ ({ dst := _, op := Op.store 25 (Operand.tmp 10) (Operand.tmp 9), type := _, pos := _, after := _, guard := _ } :: _) _ _); refine armS (.tmp 10) (Operand.tmp 9) 25 rfl rfl rfl rfl HS1.out ?_; simp only [Act.put])
    | ((with_reducible show wpList _ _ _ ({ dst := _, op := Op.slice 25 (Operand.tmp 16) none (some (Operand.const (Value.int IntKind.i64 100))) none, type := _, pos := _, after := _, guard := _ } :: _) _ _); refine arm_slice rfl 25 (.tmp 16) none (some (.const (.int .i64 100))) rfl rfl rfl rfl (HU1.out _) ?_)
    | ((with_reducible show wpList _ _ _ ({ dst := _, op := Op.store 25 (Operand.tmp 18) (Operand.tmp 17), type := _, pos := _, after := _, guard := _ } :: _) _ _); refine armS (.tmp 18) (Operand.tmp 17) 25 rfl rfl rfl rfl HS2.out ?_; simp only [Act.put])
    | ((with_reducible show wpList _ _ _ ({ dst := _, op := Op.load 27 (Operand.tmp 1), type := _, pos := _, after := _, guard := _ } :: _) _ _); refine armL (.tmp 1) 27 rfl rfl rfl HLD.out ?_)
    | ((with_reducible show wpList _ _ _ ({ dst := _, op := Op.store 27 (Operand.tmp 2) (Operand.tmp 19), type := _, pos := _, after := _, guard := _ } :: _) _ _); refine armS (.tmp 2) (Operand.tmp 19) 27 rfl rfl rfl rfl HS3.out ?_; simp only [Act.put])
  refine bodyPost_ret (res1t rfl rfl HRES.out) rfl ?_
  exact ⟨_, _, rfl, HR1.out, HR2.out, HFIN.out⟩

theorem cut_calls (f : Fd) (mf : Bool) (off : Int) (so sb : Value) (opts body : List Int) (w0 w : World) (h1 : RowC w0 so opts) (h2 : RowC w0 sb body) :
    Calls Tryz.prog 9 #[VV f mf off so sb] w fun e w' => ∃ so' sb', e = .returned (VV f mf off so' sb') ∧ RowC w0 so' (opts.take 100) ∧ RowC w0 sb' (body.take 66000) ∧ Below w.heap.size w w' := by
  by_cases q1 : 66000 < body.length <;> by_cases q2 : 100 < opts.length
  · exact cut_11 f mf off so sb opts body w0 w h1 h2 q2 q1
  · exact cut_10 f mf off so sb opts body w0 w h1 h2 q2 q1
  · exact cut_01 f mf off so sb opts body w0 w h1 h2 q2 q1
  · exact cut_00 f mf off so sb opts body w0 w h1 h2 q2 q1

structure FdIn (f : Fd) : Prop where
  hid : 0 ≤ f.id ∧ f.id ≤ 65535
  ft : 0 ≤ f.tos ∧ f.tos < 256
  fl : 0 ≤ f.ttl ∧ f.ttl < 256
  fp : 0 ≤ f.proto ∧ f.proto < 256
  fs : Fit [f.s0, f.s1, f.s2, f.s3]
  fd : Fit [f.d0, f.d1, f.d2, f.d3]
theorem open_bytes2 {H : Type} {enc : TypeId × Value → H} {W : World} {fuel : Nat} {cs : List Value} {x : DataW H × List MemPlace} (h : DataW.trod enc Tryz.prog W 0 (fun _ => true) true fuel 25 cs = some x) (hz : ∀ k ∈ x.1.weights Tryz.prog 25, k ≤ reachBytes) :
    ∃ v zs, cs = [v] ∧ RowC W v zs := by
  obtain ⟨v, zs, hcs, hb⟩ := open_bytes1 h hz
  refine ⟨v, zs, hcs, ?_⟩
  rcases open_ints Tryz.underlying25 Tryz.underlying5 (by kernel_rfl) h with ⟨e, _⟩ | ⟨a, len, cap, zs', e, _, hl, hm, _⟩
  · rw [e] at hcs
    simp at hcs
    subst hcs
    exact .of_bytes hb (Nat.le_refl _)
  · rw [e] at hcs
    simp at hcs
    subst hcs
    exact .of_bytes hb (by omega)
set_option maxRecDepth 100000 in
theorem open_dg {H : Type} {enc : TypeId × Value → H} {W : World} {v : Value} {d : DataW H} {p : List MemPlace} (h : DataW.Trod enc Tryz.prog W 0 (fun _ => true) true 27 v d p) (hz : ∀ k ∈ d.weights Tryz.prog 27, k ≤ reachBytes) :
    ∃ f mf off so sb opts body, v = VV f mf off so sb ∧ FdIn f ∧ RowC W so opts ∧ RowC W sb body ∧ (-9223372036854775808 ≤ off ∧ off ≤ 9223372036854775807) := by
  obtain ⟨fuel, hf⟩ := h
  obtain ⟨xs, m, _, hx, hl, hxl, hi⟩ := DataW.trod_struct Tryz.underlying27 hf
  have c17 : Tryz.prog.cellsOf 27 = 17 := by kernel_rfl
  rw [c17] at hl
  obtain ⟨x0, x1, x2, x3, x4, x5, x6, x7, x8, x9, x10, rfl⟩ := V4.list11 hxl
  have g0 : DataW.trod enc Tryz.prog W 0 (fun _ => true) true m 5 ((v.cells.toList.drop 0).take 1) = some x0 := by
    have e : DataW.trod enc Tryz.prog W 0 (fun _ => true) true m 5 ((v.cells.toList.drop 0).take (Tryz.prog.cellsOf 5)) = some x0 := hi 0 _ rfl
    rwa [show Tryz.prog.cellsOf 5 = 1 by kernel_rfl] at e
  have g1 : DataW.trod enc Tryz.prog W 0 (fun _ => true) true m 22 ((v.cells.toList.drop 1).take 1) = some x1 := by
    have e : DataW.trod enc Tryz.prog W 0 (fun _ => true) true m 22 ((v.cells.toList.drop 1).take (Tryz.prog.cellsOf 22)) = some x1 := hi 1 _ rfl
    rwa [show Tryz.prog.cellsOf 22 = 1 by kernel_rfl] at e
  have g2 : DataW.trod enc Tryz.prog W 0 (fun _ => true) true m 4 ((v.cells.toList.drop 2).take 1) = some x2 := by
    have e : DataW.trod enc Tryz.prog W 0 (fun _ => true) true m 4 ((v.cells.toList.drop 2).take (Tryz.prog.cellsOf 4)) = some x2 := hi 2 _ rfl
    rwa [show Tryz.prog.cellsOf 4 = 1 by kernel_rfl] at e
  have g3 : DataW.trod enc Tryz.prog W 0 (fun _ => true) true m 4 ((v.cells.toList.drop 3).take 1) = some x3 := by
    have e : DataW.trod enc Tryz.prog W 0 (fun _ => true) true m 4 ((v.cells.toList.drop 3).take (Tryz.prog.cellsOf 4)) = some x3 := hi 3 _ rfl
    rwa [show Tryz.prog.cellsOf 4 = 1 by kernel_rfl] at e
  have g4 : DataW.trod enc Tryz.prog W 0 (fun _ => true) true m 3 ((v.cells.toList.drop 4).take 1) = some x4 := by
    have e : DataW.trod enc Tryz.prog W 0 (fun _ => true) true m 3 ((v.cells.toList.drop 4).take (Tryz.prog.cellsOf 3)) = some x4 := hi 4 _ rfl
    rwa [show Tryz.prog.cellsOf 3 = 1 by kernel_rfl] at e
  have g5 : DataW.trod enc Tryz.prog W 0 (fun _ => true) true m 5 ((v.cells.toList.drop 5).take 1) = some x5 := by
    have e : DataW.trod enc Tryz.prog W 0 (fun _ => true) true m 5 ((v.cells.toList.drop 5).take (Tryz.prog.cellsOf 5)) = some x5 := hi 5 _ rfl
    rwa [show Tryz.prog.cellsOf 5 = 1 by kernel_rfl] at e
  have g6 : DataW.trod enc Tryz.prog W 0 (fun _ => true) true m 5 ((v.cells.toList.drop 6).take 1) = some x6 := by
    have e : DataW.trod enc Tryz.prog W 0 (fun _ => true) true m 5 ((v.cells.toList.drop 6).take (Tryz.prog.cellsOf 5)) = some x6 := hi 6 _ rfl
    rwa [show Tryz.prog.cellsOf 5 = 1 by kernel_rfl] at e
  have g7 : DataW.trod enc Tryz.prog W 0 (fun _ => true) true m 24 ((v.cells.toList.drop 7).take 4) = some x7 := by
    have e : DataW.trod enc Tryz.prog W 0 (fun _ => true) true m 24 ((v.cells.toList.drop 7).take (Tryz.prog.cellsOf 24)) = some x7 := hi 7 _ rfl
    rwa [show Tryz.prog.cellsOf 24 = 4 by kernel_rfl] at e
  have g8 : DataW.trod enc Tryz.prog W 0 (fun _ => true) true m 24 ((v.cells.toList.drop 11).take 4) = some x8 := by
    have e : DataW.trod enc Tryz.prog W 0 (fun _ => true) true m 24 ((v.cells.toList.drop 11).take (Tryz.prog.cellsOf 24)) = some x8 := hi 8 _ rfl
    rwa [show Tryz.prog.cellsOf 24 = 4 by kernel_rfl] at e
  have g9 : DataW.trod enc Tryz.prog W 0 (fun _ => true) true m 25 ((v.cells.toList.drop 15).take 1) = some x9 := by
    have e : DataW.trod enc Tryz.prog W 0 (fun _ => true) true m 25 ((v.cells.toList.drop 15).take (Tryz.prog.cellsOf 25)) = some x9 := hi 9 _ rfl
    rwa [show Tryz.prog.cellsOf 25 = 1 by kernel_rfl] at e
  have g10 : DataW.trod enc Tryz.prog W 0 (fun _ => true) true m 25 ((v.cells.toList.drop 16).take 1) = some x10 := by
    have e : DataW.trod enc Tryz.prog W 0 (fun _ => true) true m 25 ((v.cells.toList.drop 16).take (Tryz.prog.cellsOf 25)) = some x10 := hi 10 _ rfl
    rwa [show Tryz.prog.cellsOf 25 = 1 by kernel_rfl] at e
  obtain ⟨rfl, rfl⟩ := Prod.mk.inj hx
  have w9 : ∀ k ∈ x9.1.weights Tryz.prog 25, k ≤ reachBytes := fun k hk => hz k (by
    simp only [DataW.weights, Tryz.underlying27]
    exact DataW.weights_mem_each (j := 9) rfl rfl k hk)
  have w10 : ∀ k ∈ x10.1.weights Tryz.prog 25, k ≤ reachBytes := fun k hk => hz k (by
    simp only [DataW.weights, Tryz.underlying27]
    exact DataW.weights_mem_each (j := 10) rfl rfl k hk)
  obtain ⟨tos, e0, _, f0⟩ := DataW.trod_int Tryz.underlying5 g0
  obtain ⟨id, e1, _, f1⟩ := DataW.trod_int Tryz.underlying22 g1
  obtain ⟨df, e2, _⟩ := DataW.trod_bool Tryz.underlying4 g2
  obtain ⟨mf, e3, _⟩ := DataW.trod_bool Tryz.underlying4 g3
  obtain ⟨off, e4, _, f4⟩ := DataW.trod_int Tryz.underlying3 g4
  obtain ⟨ttl, e5, _, f5⟩ := DataW.trod_int Tryz.underlying5 g5
  obtain ⟨proto, e6, _, f6⟩ := DataW.trod_int Tryz.underlying5 g6
  obtain ⟨s0, s1, s2, s3, e7, f7⟩ := cells_arr4 g7
  obtain ⟨d0, d1, d2, d3, e8, f8⟩ := cells_arr4 g8
  obtain ⟨so, opts, e9, b9⟩ := open_bytes2 g9 w9
  obtain ⟨sb, body, e10, b10⟩ := open_bytes2 g10 w10
  have hall := V4.seventeen hl
  rw [e0, e1, e2, e3, e4, e5, e6, e7, e8, e9, e10] at hall
  have hv := agg_cells hall (by simp)
  have q0 := bounds_u8 f0
  have q5 := bounds_u8 f5
  have q6 := bounds_u8 f6
  have q1 : 0 ≤ id ∧ id ≤ 65535 := bounds_u16 f1
  have q4 := bounds_i64 f4
  have p0 : 0 ≤ tos ∧ tos < 256 := by omega
  have p5 : 0 ≤ ttl ∧ ttl < 256 := by omega
  have p6 : 0 ≤ proto ∧ proto < 256 := by omega
  exact ⟨⟨tos, id, df, ttl, proto, s0, s1, s2, s3, d0, d1, d2, d3⟩, mf, off, so, sb, opts, body, hv, ⟨q1, p0, p5, p6, f7, f8⟩, b9, b10, q4⟩
end Go.Proofs.YtnjkagopmfenkaaGreat

namespace Go.Proofs.YtnjkagopmfenkaaGreat
open Go Go.RowKit Go.Shelf
set_option linter.unusedVariables false
set_option linter.unusedSimpArgs false

theorem ta_no (w : World) : (Instr.typeAssert .nilIface 20 113 true).run Tryz.prog w = .ok (.tuple #[.int .i64 0, .bool false]) w := by
  simp [Instr.typeAssert, Tryz.underlying113, go_sem]
def eBox (x : Int) : Obj := .cells [.int .i64 x].toArray 37
theorem loadErr {W : World} {b : Nat} {x : Int} (h : W.heap[b]? = some (eBox x)) : (loadVar 37 ⟨b, 0, none⟩).run Tryz.prog W = .ok (.int .i64 x) W := by
  have c := blk_cell h (j := 0) rfl
  simp [go_sem, c]
theorem resCC {P : Program} {fn : Func} {a b : Tmp} {t u : TypeId} (h : fn.results = #[.cell a t, .cell b u]) {tmps : Array Value} {A B : Addr} (ha : tmps.getD a undef = .pointer (some A)) (hb : tmps.getD b undef = .pointer (some B)) {x y : Value} {w : World} (hx : (loadVar t A).run P w = .ok x w) (hl : (loadVar u B).run P w = .ok y w) :
    (results fn tmps).run P w = .ok (.tuple #[x, y]) w := by
  rw [Array.getD_eq_getD_getElem?] at ha hb
  simp [results, h, ha, hb, asAddr, hx, hl]
theorem st_err {W : World} {b : Nat} {x y : Int} (h : W.heap[b]? = some (eBox x)) : (Instr.storeAt 37 (.pointer (some ⟨b, 0, none⟩)) (.int .i64 y)).run Tryz.prog W = .ok () (W.setCell ⟨b, 0, none⟩ (.int .i64 y)) := by
  have h1 : W.cell? ⟨b, 0, none⟩ = some (.int .i64 x) := blk_cell h rfl
  have h2 := blk_open h 0
  simp [Instr.storeAt, go_sem, h1, h2]

set_option maxHeartbeats 2000000 in
set_option maxRecDepth 100000 in
theorem catch_idleV (p : Addr) (w : World) :
    CallsD Tryz.prog 68 #[.pointer (some p)] .returning w fun e u' w' => e = .returned (.tuple #[]) ∧ u' = .returning ∧ w' = w := by
  have ht := ta_no w
  refine callsD_of_wpS Tryz.func68 rfl fun c₀ cs hu => ?_
  apply wpS_seq
  refine V6.wpS_region_rec (v := .nilIface) (cs' := c₀ :: cs) rfl rfl (by simp [recoverD, hu]) ?_
  simp only [Tryz.ntmps68, List.size_toArray, List.length_cons, List.length_nil, Nat.reduceAdd, Nat.reduceSub, Array.replicate_succ, Array.replicate_zero, List.push_toArray, List.append_toArray, List.nil_append, List.cons_append, Act.put, List.setIfInBounds_toArray, List.set_cons_zero, List.set_cons_succ]
  go_wp2
  refine wpS_of_wp ?_
  go_wp2
  cases c₀
  simp_all [bodyPostS, results, Tryz.results68]

set_option maxHeartbeats 1000000 in
theorem must_good (e : Int) (w : World) : Calls Tryz.prog 36 #[.bool true, .int .i64 e] w fun e' w' => e' = .returned (.tuple #[]) ∧ w' = w := by
  go_enter Tryz.func36, Tryz.ntmps36
  go_wp2
  go_end0
  exact ⟨rfl, rfl⟩
set_option maxHeartbeats 1000000 in
theorem good_good (w : World) : Calls Tryz.prog 34 #[.int .i64 0] w fun e' w' => e' = .returned (.tuple #[]) ∧ w' = w := by
  go_enter Tryz.func34, Tryz.ntmps34
  go_wp2_with fail
  refine Calls.mono (must_good 0 w) ?_
  rintro _ _ ⟨rfl, rfl⟩
  go_wp2
  go_end0
  exact ⟨rfl, rfl⟩
set_option maxHeartbeats 1000000 in
theorem next17 (w : World) : Calls Tryz.prog 73 #[.int .u8 17] w fun e' w' => e' = .returned (.int .u8 17) ∧ w' = w := by
  go_enter Tryz.func73, Tryz.ntmps73
  go_wp2
  go_ret
  exact ⟨rfl, rfl⟩
set_option maxHeartbeats 1000000 in
theorem leastBody17 (w : World) : Calls Tryz.prog 76 #[.int .u8 17] w fun e' w' => e' = .returned (.int .i64 8) ∧ w' = w := by
  go_enter Tryz.func76, Tryz.ntmps76
  go_wp2
  go_ret
  exact ⟨rfl, rfl⟩
end Go.Proofs.YtnjkagopmfenkaaGreat

namespace Go.Proofs.YtnjkagopmfenkaaGreat
open Go Go.RowKit Go.Shelf
set_option linter.unusedVariables false
set_option linter.unusedSimpArgs false

def kS4 : List Int := [10, 0, 0, 1]
def kD4 : List Int := [10, 0, 0, 2]
def kA6 : List Int := [1, 0, 0, 0, 0, 0, 0, 0, 0, 0, 0, 0, 0, 0, 0, 0]
def kB6 : List Int := [2, 0, 0, 0, 0, 0, 0, 0, 0, 0, 0, 0, 0, 0, 0, 0]
def kB : List Int := [0, 1, 0, 2, 0, 8, 0, 0]
def kZ : List Int := udpB (ph6 kA6 kB6) 1 2 []
theorem kE : uE 4 (ph4 kS4 kD4) kB = 0 := by decide +kernel
theorem kU : uB 4 (ph4 kS4 kD4) kB = true := by decide +kernel
theorem kS : uS 4 (ph4 kS4 kD4) kB = 1 := by decide +kernel
theorem kD : uD 4 (ph4 kS4 kD4) kB = 2 := by decide +kernel
theorem kX : uX 4 (ph4 kS4 kD4) kB = [] := by decide +kernel
theorem kZ_len : kZ.length = 8 := by decide +kernel
theorem kZ_some : ∃ a b c d e f g h : Int, kZ = [a, b, c, d, e, f, g, h] ∧ (0 ≤ g ∧ g < 256) ∧ (0 ≤ h ∧ h < 256) ∧ bits .or .u8 g h ≠ 0 := by
  exact ⟨gz kZ 0, gz kZ 1, gz kZ 2, gz kZ 3, gz kZ 4, gz kZ 5, gz kZ 6, gz kZ 7, by decide +kernel, by decide +kernel, by decide +kernel, by decide +kernel⟩
def kE6 : List Value := [.int .u8 1, .int .u8 0, .int .u8 0, .int .u8 0, .int .u8 0, .int .u8 0, .int .u8 0, .int .u8 0, .int .u8 0, .int .u8 0, .int .u8 0, .int .u8 0, .int .u8 0, .int .u8 0, .int .u8 0, .int .u8 0, .int .u8 2, .int .u8 0, .int .u8 0, .int .u8 0, .int .u8 0, .int .u8 0, .int .u8 0, .int .u8 0, .int .u8 0, .int .u8 0, .int .u8 0, .int .u8 0, .int .u8 0, .int .u8 0, .int .u8 0, .int .u8 0]
theorem kE6_len : kE6.length = 32 := rfl
def kC (ab : Option Addr) (cb : Nat) : List Value := [.int .u8 0, .int .u16 0, .bool false, .bool false, .int .i64 0, .int .u8 7, .int .u8 17, .int .u8 10, .int .u8 0, .int .u8 0, .int .u8 1, .int .u8 10, .int .u8 0, .int .u8 0, .int .u8 2, .slice none 0 0, .slice ab 8 cb]

set_option maxHeartbeats 4000000 in
set_option maxRecDepth 100000 in
theorem reckoned_known (w : World) (ab : Option Addr) (cb : Nat) (hr : RowC w (.slice ab 8 cb) kB) :
    Calls Tryz.prog 78 #[.agg [.int .u8 0, .int .u16 0, .bool false, .bool false, .int .i64 0, .int .u8 7, .int .u8 17, .int .u8 10, .int .u8 0, .int .u8 0, .int .u8 1, .int .u8 10, .int .u8 0, .int .u8 0, .int .u8 2, .slice none 0 0, .slice ab 8 cb].toArray, .agg [.int .u8 1, .int .u8 0, .int .u8 0, .int .u8 0, .int .u8 0, .int .u8 0, .int .u8 0, .int .u8 0, .int .u8 0, .int .u8 0, .int .u8 0, .int .u8 0, .int .u8 0, .int .u8 0, .int .u8 0, .int .u8 0, .int .u8 2, .int .u8 0, .int .u8 0, .int .u8 0, .int .u8 0, .int .u8 0, .int .u8 0, .int .u8 0, .int .u8 0, .int .u8 0, .int .u8 0, .int .u8 0, .int .u8 0, .int .u8 0, .int .u8 0, .int .u8 0].toArray] w fun e w' => ∃ v, e = .returned v ∧ OB w.heap.size w w' v kZ := by
  obtain ⟨W0, hW0⟩ : ∃ W0, w.alloc (.cells [.int .u8 0, .int .u16 0, .bool false, .bool false, .int .i64 0, .int .u8 7, .int .u8 17, .int .u8 10, .int .u8 0, .int .u8 0, .int .u8 1, .int .u8 10, .int .u8 0, .int .u8 0, .int .u8 2, .slice none 0 0, .slice ab 8 cb].toArray 27) = W0 := ⟨_, rfl⟩
  obtain ⟨W1, hW1⟩ : ∃ W1, W0.alloc (.cells [.int .u8 1, .int .u8 0, .int .u8 0, .int .u8 0, .int .u8 0, .int .u8 0, .int .u8 0, .int .u8 0, .int .u8 0, .int .u8 0, .int .u8 0, .int .u8 0, .int .u8 0, .int .u8 0, .int .u8 0, .int .u8 0, .int .u8 2, .int .u8 0, .int .u8 0, .int .u8 0, .int .u8 0, .int .u8 0, .int .u8 0, .int .u8 0, .int .u8 0, .int .u8 0, .int .u8 0, .int .u8 0, .int .u8 0, .int .u8 0, .int .u8 0, .int .u8 0].toArray 31) = W1 := ⟨_, rfl⟩
  have b0 := blk_new w (.cells [.int .u8 0, .int .u16 0, .bool false, .bool false, .int .i64 0, .int .u8 7, .int .u8 17, .int .u8 10, .int .u8 0, .int .u8 0, .int .u8 1, .int .u8 10, .int .u8 0, .int .u8 0, .int .u8 2, .slice none 0 0, .slice ab 8 cb].toArray 27)
  have hB0 := (Below.refl w.heap.size w).alloc (Nat.le_refl _) (.cells [.int .u8 0, .int .u16 0, .bool false, .bool false, .int .i64 0, .int .u8 7, .int .u8 17, .int .u8 10, .int .u8 0, .int .u8 0, .int .u8 1, .int .u8 10, .int .u8 0, .int .u8 0, .int .u8 2, .slice none 0 0, .slice ab 8 cb].toArray 27)
  rw [hW0] at b0 hB0
  have b1 := blk_new W0 (.cells [.int .u8 1, .int .u8 0, .int .u8 0, .int .u8 0, .int .u8 0, .int .u8 0, .int .u8 0, .int .u8 0, .int .u8 0, .int .u8 0, .int .u8 0, .int .u8 0, .int .u8 0, .int .u8 0, .int .u8 0, .int .u8 0, .int .u8 2, .int .u8 0, .int .u8 0, .int .u8 0, .int .u8 0, .int .u8 0, .int .u8 0, .int .u8 0, .int .u8 0, .int .u8 0, .int .u8 0, .int .u8 0, .int .u8 0, .int .u8 0, .int .u8 0, .int .u8 0].toArray 31)
  have hB1 := (Below.refl W0.heap.size W0).alloc (Nat.le_refl _) (.cells [.int .u8 1, .int .u8 0, .int .u8 0, .int .u8 0, .int .u8 0, .int .u8 0, .int .u8 0, .int .u8 0, .int .u8 0, .int .u8 0, .int .u8 0, .int .u8 0, .int .u8 0, .int .u8 0, .int .u8 0, .int .u8 0, .int .u8 2, .int .u8 0, .int .u8 0, .int .u8 0, .int .u8 0, .int .u8 0, .int .u8 0, .int .u8 0, .int .u8 0, .int .u8 0, .int .u8 0, .int .u8 0, .int .u8 0, .int .u8 0, .int .u8 0, .int .u8 0].toArray 31)
  have b01 := blk_alloc b0 (.cells [.int .u8 1, .int .u8 0, .int .u8 0, .int .u8 0, .int .u8 0, .int .u8 0, .int .u8 0, .int .u8 0, .int .u8 0, .int .u8 0, .int .u8 0, .int .u8 0, .int .u8 0, .int .u8 0, .int .u8 0, .int .u8 0, .int .u8 2, .int .u8 0, .int .u8 0, .int .u8 0, .int .u8 0, .int .u8 0, .int .u8 0, .int .u8 0, .int .u8 0, .int .u8 0, .int .u8 0, .int .u8 0, .int .u8 0, .int .u8 0, .int .u8 0, .int .u8 0].toArray 31)
  rw [hW1] at b1 hB1 b01
  have hX1 := hB0.trans (hB1.mono hB0.size)
  have k3 : W1.cell? ⟨w.heap.size, 3, none⟩ = some (.bool false) := blk_cell b01 rfl
  have k7 : W1.cell? ⟨w.heap.size, 7, none⟩ = some (.int .u8 10) := blk_cell b01 rfl
  have k8 : W1.cell? ⟨w.heap.size, 8, none⟩ = some (.int .u8 0) := blk_cell b01 rfl
  have k9 : W1.cell? ⟨w.heap.size, 9, none⟩ = some (.int .u8 0) := blk_cell b01 rfl
  have k10 : W1.cell? ⟨w.heap.size, 10, none⟩ = some (.int .u8 1) := blk_cell b01 rfl
  have k11 : W1.cell? ⟨w.heap.size, 11, none⟩ = some (.int .u8 10) := blk_cell b01 rfl
  have k12 : W1.cell? ⟨w.heap.size, 12, none⟩ = some (.int .u8 0) := blk_cell b01 rfl
  have k13 : W1.cell? ⟨w.heap.size, 13, none⟩ = some (.int .u8 0) := blk_cell b01 rfl
  have k14 : W1.cell? ⟨w.heap.size, 14, none⟩ = some (.int .u8 2) := blk_cell b01 rfl
  have k16 : W1.cell? ⟨w.heap.size, 16, none⟩ = some (.slice ab 8 cb) := blk_cell b01 rfl
  have hP : Hid (Calls Tryz.prog 116 #[.agg #[.int .u8 10, .int .u8 0, .int .u8 0, .int .u8 1], .agg #[.int .u8 10, .int .u8 0, .int .u8 0, .int .u8 2], .slice ab 8 cb] W1 fun e w' => ∃ c : List Value, e = .returned (.tuple #[.agg c.toArray, .bool true, .int .i64 0]) ∧ UdpC w' c 1 2 [] ∧ Below W1.heap.size W1 w') := (ParseUDP4_any kS4 kD4 rfl rfl (by intro z hz; simp [kS4] at hz; omega) (by intro z hz; simp [kD4] at hz; omega) (.slice ab 8 cb) kB W1 (hr.on hX1)).mono (fun e w' k => by
    unfold ParU at k
    rw [kE, kU, kS, kD, kX] at k
    exact k)
  have HLA : Hid (∀ W, Below W1.heap.size W1 W → (Instr.loadAt 29 (.pointer (some ⟨W0.heap.size, 0, none⟩))).run Tryz.prog W = .ok (.agg [.int .u8 1, .int .u8 0, .int .u8 0, .int .u8 0, .int .u8 0, .int .u8 0, .int .u8 0, .int .u8 0, .int .u8 0, .int .u8 0, .int .u8 0, .int .u8 0, .int .u8 0, .int .u8 0, .int .u8 0, .int .u8 0].toArray) W) := fun W hW => agg_load Tryz.isAgg29 Tryz.sizeOf29 rfl (CellsAt.fst (ys := [.int .u8 2, .int .u8 0, .int .u8 0, .int .u8 0, .int .u8 0, .int .u8 0, .int .u8 0, .int .u8 0, .int .u8 0, .int .u8 0, .int .u8 0, .int .u8 0, .int .u8 0, .int .u8 0, .int .u8 0, .int .u8 0]) (CellsAt.of_blk (blk_on b1 hW)))
  have HLB : Hid (∀ W, Below W1.heap.size W1 W → (Instr.loadAt 29 (.pointer (some ⟨W0.heap.size, 16, none⟩))).run Tryz.prog W = .ok (.agg [.int .u8 2, .int .u8 0, .int .u8 0, .int .u8 0, .int .u8 0, .int .u8 0, .int .u8 0, .int .u8 0, .int .u8 0, .int .u8 0, .int .u8 0, .int .u8 0, .int .u8 0, .int .u8 0, .int .u8 0, .int .u8 0].toArray) W) := fun W hW => agg_load Tryz.isAgg29 Tryz.sizeOf29 rfl (CellsAt.part (o := 0) (xs := [.int .u8 1, .int .u8 0, .int .u8 0, .int .u8 0, .int .u8 0, .int .u8 0, .int .u8 0, .int .u8 0, .int .u8 0, .int .u8 0, .int .u8 0, .int .u8 0, .int .u8 0, .int .u8 0, .int .u8 0, .int .u8 0]) (ys := [.int .u8 2, .int .u8 0, .int .u8 0, .int .u8 0, .int .u8 0, .int .u8 0, .int .u8 0, .int .u8 0, .int .u8 0, .int .u8 0, .int .u8 0, .int .u8 0, .int .u8 0, .int .u8 0, .int .u8 0, .int .u8 0]) (zs := []) (CellsAt.of_blk (blk_on b1 hW)))
  have HX1 : Hid _ := hX1
  clear b0 hB0 b1 hB1 b01 hX1 hr
  go_enter Tryz.func78, Tryz.ntmps78
  go_wp2_with fail
  refine Calls.mono (must_good 172 _) ?_
  rintro _ _ ⟨rfl, rfl⟩
  go_wp2_with fail
  refine Calls.mono hP.out ?_
  rintro _ w2 ⟨cu, rfl, hu, hb2⟩
  obtain ⟨w3, st3, b3, hb3⟩ := box_new Tryz.sizeOf174 w2 [.int .u16 0, .int .u16 0, .slice none 0 0] rfl cu hu.len (by obtain ⟨⟨vd, rfl, _, _, a, k, rfl, _⟩, _⟩ := hu; intro v hv; simp at hv; rcases hv with rfl | rfl | rfl <;> rfl)
  have hu3 := hu.on hb3
  have hx3 := hb2.trans (hb3.mono hb2.size)
  have HS3 : Hid _ := st3
  have HU : Hid _ := hu3
  have HLU : Hid ((Instr.loadAt 174 (.pointer (some ⟨w2.heap.size, 0, none⟩))).run Tryz.prog w3 = .ok (.agg cu.toArray) w3) := agg_load Tryz.isAgg174 Tryz.sizeOf174 hu3.len (CellsAt.of_blk b3)
  have HW : Hid (Calls Tryz.prog 117 #[.agg [.int .u8 1, .int .u8 0, .int .u8 0, .int .u8 0, .int .u8 0, .int .u8 0, .int .u8 0, .int .u8 0, .int .u8 0, .int .u8 0, .int .u8 0, .int .u8 0, .int .u8 0, .int .u8 0, .int .u8 0, .int .u8 0].toArray, .agg [.int .u8 2, .int .u8 0, .int .u8 0, .int .u8 0, .int .u8 0, .int .u8 0, .int .u8 0, .int .u8 0, .int .u8 0, .int .u8 0, .int .u8 0, .int .u8 0, .int .u8 0, .int .u8 0, .int .u8 0, .int .u8 0].toArray, .agg cu.toArray] w3 fun e w' => ∃ v, e = .returned (.tuple #[v, .int .i64 0]) ∧ OB w3.heap.size w3 w' v kZ) := WriteUDP6_any kA6 kB6 rfl rfl (by intro z hz; simp [kA6] at hz; omega) (by intro z hz; simp [kB6] at hz; omega) cu 1 2 [] w3 hu3
  have HX3 : Hid _ := hx3
  clear st3 b3 hb3 hb2 hu hu3 k3 k7 k8 k9 k10 k11 k12 k13 k14 k16 hP
  go_wp2_with first
    | ((with_reducible show wpList _ _ _ _ _ _); refine arm_store rfl (.tmp 5) (.tmp 21) 174 rfl rfl rfl HS3.out ?_)
  refine Calls.mono (must_good 173 _) ?_
  rintro _ _ ⟨rfl, rfl⟩
  go_wp2_with first
    | ((with_reducible show wpList _ _ _ _ _ _); refine arm_load rfl (.tmp 28) 29 rfl rfl (HLA.out _ HX3.out) ?_)
    | ((with_reducible show wpList _ _ _ _ _ _); refine arm_load rfl (.tmp 30) 29 rfl rfl (HLB.out _ HX3.out) ?_)
    | ((with_reducible show wpList _ _ _ _ _ _); refine arm_load rfl (.tmp 5) 174 rfl rfl HLU.out ?_)
  refine Calls.mono HW.out ?_
  rintro _ w4 ⟨v, rfl, ho⟩
  have HO : Hid _ := ho
  clear ho HW
  go_wp2_with fail
  refine Calls.mono (good_good _) ?_
  rintro _ _ ⟨rfl, rfl⟩
  go_wp2
  go_ret
  exact ⟨_, rfl, HO.out.lower (HX1.out.trans (HX3.out.mono HX1.out.size)) (HX1.out.trans (HX3.out.mono HX1.out.size)).size⟩
end Go.Proofs.YtnjkagopmfenkaaGreat

namespace Go.Proofs.YtnjkagopmfenkaaGreat
open Go Go.RowKit Go.Shelf
set_option linter.unusedVariables false
set_option linter.unusedSimpArgs false

theorem bDr {B : Nat} {u w : World} (h : Below B u w) (n : Nat) : Below B u (w.drewN n) := ⟨h.os, h.tape, h.output, h.size, h.block⟩
set_option maxHeartbeats 1000000 in
set_option maxRecDepth 100000 in
theorem wordOf_zero (w : World) (R off n cap : Nat) (hn : 2 ≤ n) (h0 : w.cell? ⟨R, off, none⟩ = some (.int .u8 0)) (h1 : w.cell? ⟨R, off + 1, none⟩ = some (.int .u8 0)) :
    Calls Tryz.prog 77 #[.slice (some ⟨R, off, none⟩) n cap] w fun e w' => e = .returned (.int .u16 0) ∧ Below w.heap.size w w' := by
  have i0 : (0 : Nat) < n := by omega
  have i1 : (1 : Nat) < n := by omega
  go_enter Tryz.func77, Tryz.ntmps77
  go_wp2
  go_quiet (fail)
  go_wp2
  go_ret
  exact ⟨rfl, bDr (Below.refl w.heap.size w) _⟩

set_option maxHeartbeats 4000000 in
set_option maxRecDepth 100000 in
theorem body_known (w : World) (R : Nat) (hr : RowC w (.slice (some ⟨R, 0, none⟩) 8 8) kB) :
    Calls Tryz.prog 40 #[.agg [.int .u8 0, .int .u16 0, .bool false, .bool false, .int .i64 0, .int .u8 7, .int .u8 17, .int .u8 10, .int .u8 0, .int .u8 0, .int .u8 1, .int .u8 10, .int .u8 0, .int .u8 0, .int .u8 2, .slice none 0 0, .slice (some ⟨R, 0, none⟩) 8 8].toArray, .agg [.int .u8 1, .int .u8 0, .int .u8 0, .int .u8 0, .int .u8 0, .int .u8 0, .int .u8 0, .int .u8 0, .int .u8 0, .int .u8 0, .int .u8 0, .int .u8 0, .int .u8 0, .int .u8 0, .int .u8 0, .int .u8 0, .int .u8 2, .int .u8 0, .int .u8 0, .int .u8 0, .int .u8 0, .int .u8 0, .int .u8 0, .int .u8 0, .int .u8 0, .int .u8 0, .int .u8 0, .int .u8 0, .int .u8 0, .int .u8 0, .int .u8 0, .int .u8 0].toArray] w fun e w' => ∃ v, e = .returned v ∧ OB w.heap.size w w' v kZ := by
  obtain ⟨W0, hW0⟩ : ∃ W0, w.alloc (.cells [.int .u8 0, .int .u16 0, .bool false, .bool false, .int .i64 0, .int .u8 7, .int .u8 17, .int .u8 10, .int .u8 0, .int .u8 0, .int .u8 1, .int .u8 10, .int .u8 0, .int .u8 0, .int .u8 2, .slice none 0 0, .slice (some ⟨R, 0, none⟩) 8 8].toArray 27) = W0 := ⟨_, rfl⟩
  obtain ⟨W1, hW1⟩ : ∃ W1, W0.alloc (.cells [.int .u8 1, .int .u8 0, .int .u8 0, .int .u8 0, .int .u8 0, .int .u8 0, .int .u8 0, .int .u8 0, .int .u8 0, .int .u8 0, .int .u8 0, .int .u8 0, .int .u8 0, .int .u8 0, .int .u8 0, .int .u8 0, .int .u8 2, .int .u8 0, .int .u8 0, .int .u8 0, .int .u8 0, .int .u8 0, .int .u8 0, .int .u8 0, .int .u8 0, .int .u8 0, .int .u8 0, .int .u8 0, .int .u8 0, .int .u8 0, .int .u8 0, .int .u8 0].toArray 31) = W1 := ⟨_, rfl⟩
  have b0 := blk_new w (.cells [.int .u8 0, .int .u16 0, .bool false, .bool false, .int .i64 0, .int .u8 7, .int .u8 17, .int .u8 10, .int .u8 0, .int .u8 0, .int .u8 1, .int .u8 10, .int .u8 0, .int .u8 0, .int .u8 2, .slice none 0 0, .slice (some ⟨R, 0, none⟩) 8 8].toArray 27)
  have hB0 := (Below.refl w.heap.size w).alloc (Nat.le_refl _) (.cells [.int .u8 0, .int .u16 0, .bool false, .bool false, .int .i64 0, .int .u8 7, .int .u8 17, .int .u8 10, .int .u8 0, .int .u8 0, .int .u8 1, .int .u8 10, .int .u8 0, .int .u8 0, .int .u8 2, .slice none 0 0, .slice (some ⟨R, 0, none⟩) 8 8].toArray 27)
  rw [hW0] at b0 hB0
  have b1 := blk_new W0 (.cells [.int .u8 1, .int .u8 0, .int .u8 0, .int .u8 0, .int .u8 0, .int .u8 0, .int .u8 0, .int .u8 0, .int .u8 0, .int .u8 0, .int .u8 0, .int .u8 0, .int .u8 0, .int .u8 0, .int .u8 0, .int .u8 0, .int .u8 2, .int .u8 0, .int .u8 0, .int .u8 0, .int .u8 0, .int .u8 0, .int .u8 0, .int .u8 0, .int .u8 0, .int .u8 0, .int .u8 0, .int .u8 0, .int .u8 0, .int .u8 0, .int .u8 0, .int .u8 0].toArray 31)
  have hB1 := (Below.refl W0.heap.size W0).alloc (Nat.le_refl _) (.cells [.int .u8 1, .int .u8 0, .int .u8 0, .int .u8 0, .int .u8 0, .int .u8 0, .int .u8 0, .int .u8 0, .int .u8 0, .int .u8 0, .int .u8 0, .int .u8 0, .int .u8 0, .int .u8 0, .int .u8 0, .int .u8 0, .int .u8 2, .int .u8 0, .int .u8 0, .int .u8 0, .int .u8 0, .int .u8 0, .int .u8 0, .int .u8 0, .int .u8 0, .int .u8 0, .int .u8 0, .int .u8 0, .int .u8 0, .int .u8 0, .int .u8 0, .int .u8 0].toArray 31)
  have b01 := blk_alloc b0 (.cells [.int .u8 1, .int .u8 0, .int .u8 0, .int .u8 0, .int .u8 0, .int .u8 0, .int .u8 0, .int .u8 0, .int .u8 0, .int .u8 0, .int .u8 0, .int .u8 0, .int .u8 0, .int .u8 0, .int .u8 0, .int .u8 0, .int .u8 2, .int .u8 0, .int .u8 0, .int .u8 0, .int .u8 0, .int .u8 0, .int .u8 0, .int .u8 0, .int .u8 0, .int .u8 0, .int .u8 0, .int .u8 0, .int .u8 0, .int .u8 0, .int .u8 0, .int .u8 0].toArray 31)
  rw [hW1] at b1 hB1 b01
  have hX1 := hB0.trans (hB1.mono hB0.size)
  have HC : Hid (∀ W, Below W1.heap.size W1 W → W.cell? ⟨w.heap.size, 4, none⟩ = some (.int .i64 0) ∧ W.cell? ⟨w.heap.size, 6, none⟩ = some (.int .u8 17) ∧ W.cell? ⟨w.heap.size, 16, none⟩ = some (.slice (some ⟨R, 0, none⟩) 8 8)) := fun W hW => ⟨blk_cell (blk_on b01 hW) rfl, blk_cell (blk_on b01 hW) rfl, blk_cell (blk_on b01 hW) rfl⟩
  have HLV : Hid (∀ W, Below W1.heap.size W1 W → (Instr.loadAt 27 (.pointer (some ⟨w.heap.size, 0, none⟩))).run Tryz.prog W = .ok (.agg [.int .u8 0, .int .u16 0, .bool false, .bool false, .int .i64 0, .int .u8 7, .int .u8 17, .int .u8 10, .int .u8 0, .int .u8 0, .int .u8 1, .int .u8 10, .int .u8 0, .int .u8 0, .int .u8 2, .slice none 0 0, .slice (some ⟨R, 0, none⟩) 8 8].toArray) W) := fun W hW => agg_load Tryz.isAgg27 Tryz.sizeOf27 rfl (CellsAt.of_blk (blk_on b01 hW))
  have HLE : Hid (∀ W, Below W1.heap.size W1 W → (Instr.loadAt 31 (.pointer (some ⟨W0.heap.size, 0, none⟩))).run Tryz.prog W = .ok (.agg [.int .u8 1, .int .u8 0, .int .u8 0, .int .u8 0, .int .u8 0, .int .u8 0, .int .u8 0, .int .u8 0, .int .u8 0, .int .u8 0, .int .u8 0, .int .u8 0, .int .u8 0, .int .u8 0, .int .u8 0, .int .u8 0, .int .u8 2, .int .u8 0, .int .u8 0, .int .u8 0, .int .u8 0, .int .u8 0, .int .u8 0, .int .u8 0, .int .u8 0, .int .u8 0, .int .u8 0, .int .u8 0, .int .u8 0, .int .u8 0, .int .u8 0, .int .u8 0].toArray) W) := fun W hW => agg_load Tryz.isAgg31 Tryz.sizeOf31 rfl (CellsAt.of_blk (blk_on b1 hW))
  have hrc : ∀ W, Below W1.heap.size W1 W → W.cell? ⟨R, 6, none⟩ = some (.int .u8 0) ∧ W.cell? ⟨R, 7, none⟩ = some (.int .u8 0) := fun W hW => by
    obtain ⟨_, _, a, cap, e, _, hz⟩ := hr.on (hX1.trans (hW.mono hX1.size))
    rcases hz with hz | ⟨b, off, ea, _, hc⟩
    · exact absurd hz (by decide)
    · simp at e
      obtain ⟨e1, e2⟩ := e
      rw [← e1] at ea
      simp at ea
      obtain ⟨rfl, rfl⟩ := ea
      exact ⟨by simpa [kB] using hc 6 (by decide), by simpa [kB] using hc 7 (by decide)⟩
  have HWD : Hid (∀ W, Below W1.heap.size W1 W → Calls Tryz.prog 77 #[.slice (some ⟨R, 6, none⟩) 2 2] W fun e w' => e = .returned (.int .u16 0) ∧ Below W.heap.size W w') := fun W hW => wordOf_zero W R 6 2 2 (by decide) (hrc W hW).1 (hrc W hW).2
  have HRK : Hid (∀ W, Below W1.heap.size W1 W → Calls Tryz.prog 78 #[.agg [.int .u8 0, .int .u16 0, .bool false, .bool false, .int .i64 0, .int .u8 7, .int .u8 17, .int .u8 10, .int .u8 0, .int .u8 0, .int .u8 1, .int .u8 10, .int .u8 0, .int .u8 0, .int .u8 2, .slice none 0 0, .slice (some ⟨R, 0, none⟩) 8 8].toArray, .agg [.int .u8 1, .int .u8 0, .int .u8 0, .int .u8 0, .int .u8 0, .int .u8 0, .int .u8 0, .int .u8 0, .int .u8 0, .int .u8 0, .int .u8 0, .int .u8 0, .int .u8 0, .int .u8 0, .int .u8 0, .int .u8 0, .int .u8 2, .int .u8 0, .int .u8 0, .int .u8 0, .int .u8 0, .int .u8 0, .int .u8 0, .int .u8 0, .int .u8 0, .int .u8 0, .int .u8 0, .int .u8 0, .int .u8 0, .int .u8 0, .int .u8 0, .int .u8 0].toArray] W fun e w' => ∃ v, e = .returned v ∧ OB W.heap.size W w' v kZ) := fun W hW => reckoned_known W (some ⟨R, 0, none⟩) 8 (hr.on (hX1.trans (hW.mono hX1.size)))
  have HX1 : Hid _ := hX1
  have hy1 : Below W1.heap.size W1 W1 := Below.refl _ _
  obtain ⟨k4, k6, k16⟩ := HC.out W1 hy1
  clear b0 hB0 b1 hB1 b01 hX1 hr hrc
  go_enter Tryz.func40, Tryz.ntmps40
  go_wp2
  go_quiet (first | (go_at_call 76; exact Calls.quiet_of_same (leastBody17 _)) | (go_at_call 36; exact Calls.quiet_of_same (must_good _ _)))
  rename_i nq
  have hyd : Below W1.heap.size W1 (W1.drewN nq) := bDr hy1 nq
  obtain ⟨d4, d6, d16⟩ := HC.out _ hyd
  go_wp2_with fail
  refine Calls.mono (HWD.out _ hyd) ?_
  rintro _ w2 ⟨rfl, hb2⟩
  have hy2 := hyd.trans (hb2.mono hyd.size)
  clear hb2 HWD d4 d6 d16 k4 k6 k16
  go_wp2_with first
    | ((with_reducible show wpList _ _ _ _ _ _); refine arm_load rfl (.tmp 2) 27 rfl rfl (HLV.out _ hy2) ?_)
    | ((with_reducible show wpList _ _ _ _ _ _); refine arm_load rfl (.tmp 3) 31 rfl rfl (HLE.out _ hy2) ?_)
  refine Calls.mono (HRK.out _ hy2) ?_
  rintro _ w3 ⟨v, rfl, ho⟩
  have HO : Hid _ := ho
  clear ho HRK
  have HY : Hid _ := HX1.out.trans (hy2.mono HX1.out.size)
  go_wp2
  go_ret
  exact ⟨_, rfl, HO.out.lower HY.out HY.out.size⟩
end Go.Proofs.YtnjkagopmfenkaaGreat
