/-
  Edges in memory; what serves for edgeOf.
-/
import Derived.Test.YtloadmpappjceaaDoorMc1
namespace Go.Proofs.YtloadmpappjceaaDoor
open Go Go.RowKit
set_option linter.unusedVariables false
set_option linter.unusedSimpArgs false

/-- An edge. -/
structure Ed where
  l4 : List Int
  n4 : Int
  o : Int
  l : Int
  p : Int
  l6 : List Int
  n6 : Int
  ow : List Int
def edC (e : Ed) : List Value := cp4 e.l4 e.n4 ++ (PSL e.o e.l e.p ++ (cp6 e.l6 e.n6 ++ b8 e.ow))
abbrev EV (e : Ed) : Value := .agg (edC e).toArray
abbrev EO (e : Ed) : Obj := .cells (edC e).toArray 45
structure Ed.In (e : Ed) : Prop where
  f4 : FitB e.l4
  k4 : e.l4.length = 4
  b4 : In64 e.n4
  bo : In64 e.o
  bl : In64 e.l
  bp : 0 ≤ e.p ∧ e.p < 65536
  f6 : FitB e.l6
  k6 : e.l6.length = 16
  b6 : In64 e.n6
  fw : FitB e.ow
  kw : e.ow.length = 16
def zeroEd : Ed := ⟨[0, 0, 0, 0], 0, 0, 0, 0, [0, 0, 0, 0, 0, 0, 0, 0, 0, 0, 0, 0, 0, 0, 0, 0], 0, [0, 0, 0, 0, 0, 0, 0, 0, 0, 0, 0, 0, 0, 0, 0, 0]⟩
abbrev zeroEL : List Value := [.int .u8 0, .int .u8 0, .int .u8 0, .int .u8 0, .int .i64 0, .int .i64 0, .int .i64 0, .int .u16 0, .int .u8 0, .int .u8 0, .int .u8 0, .int .u8 0, .int .u8 0, .int .u8 0, .int .u8 0, .int .u8 0, .int .u8 0, .int .u8 0, .int .u8 0, .int .u8 0, .int .u8 0, .int .u8 0, .int .u8 0, .int .u8 0, .int .i64 0, .int .u8 0, .int .u8 0, .int .u8 0, .int .u8 0, .int .u8 0, .int .u8 0, .int .u8 0, .int .u8 0, .int .u8 0, .int .u8 0, .int .u8 0, .int .u8 0, .int .u8 0, .int .u8 0, .int .u8 0, .int .u8 0]
theorem zeroEd_c : edC zeroEd = zeroEL := rfl
theorem edC_length {e : Ed} (h4 : e.l4.length = 4) (h6 : e.l6.length = 16) (hw : e.ow.length = 16) : (edC e).length = 41 := by
  simp [edC, cp4_length _ _ h4, cp6_length _ _ h6, b8_length, hw]
theorem edC_one (e : Ed) : ∀ v ∈ edC e, v.oneCell' = true := by
  intro v hv
  rcases List.mem_append.1 hv with hv | hv
  · exact cp4_one _ _ v hv
  · rcases List.mem_append.1 hv with hv | hv
    · simp [PSL] at hv; rcases hv with rfl | rfl | rfl <;> rfl
    · rcases List.mem_append.1 hv with hv | hv
      · exact cp6_one _ _ v hv
      · exact b8_one _ v hv

/-- What lies in an edge's box. -/
structure EdAt (W : World) (b : Nat) (e : Ed) : Prop where
  ldE : (Instr.loadAt 45 (.pointer (some ⟨b, 0, none⟩))).run Tryd.prog W = .ok (EV e) W
  ldV : (loadVar 45 ⟨b, 0, none⟩).run Tryd.prog W = .ok (EV e) W
  ld4 : (Instr.loadAt 29 (.pointer (some ⟨b, 0, none⟩))).run Tryd.prog W = .ok (P4L e.l4 e.n4) W
  ldS : (Instr.loadAt 34 (.pointer (some ⟨b, 5, none⟩))).run Tryd.prog W = .ok (PS e.o e.l e.p) W
  ld6 : (Instr.loadAt 25 (.pointer (some ⟨b, 8, none⟩))).run Tryd.prog W = .ok (P6 e.l6 e.n6) W
  la6 : (Instr.loadAt 23 (.pointer (some ⟨b, 8, none⟩))).run Tryd.prog W = .ok (A6 e.l6) W
  ldw : (Instr.loadAt 23 (.pointer (some ⟨b, 25, none⟩))).run Tryd.prog W = .ok (A6 e.ow) W
  s4 : CellsAt W b 0 (b8 e.l4)
  c6 : W.cell? ⟨b, 6, none⟩ = some (.int .i64 e.l)
  c7 : W.cell? ⟨b, 7, none⟩ = some (.int .u16 e.p)
  c24 : W.cell? ⟨b, 24, none⟩ = some (.int .i64 e.n6)

theorem EdAt.of {W : World} {b : Nat} {e : Ed} (k4 : e.l4.length = 4) (k6 : e.l6.length = 16) (kw : e.ow.length = 16) (h : W.heap[b]? = some (EO e)) : EdAt W b e := by
  have h0 : CellsAt W b 0 (edC e) := CellsAt.of_blk h
  have l4 := cp4_length e.l4 e.n4 k4
  have l6 := cp6_length e.l6 e.n6 k6
  have u4 : (b8 e.l4).length = 4 := by rw [b8_length, k4]
  have u6 : (u8s e.l6).length = 16 := by rw [u8s_length, k6]
  have uw : (b8 e.ow).length = 16 := by rw [b8_length, kw]
  have h4 : CellsAt W b 0 (cp4 e.l4 e.n4) := CellsAt.fst h0
  have hS : CellsAt W b 5 (PSL e.o e.l e.p) := by
    have := CellsAt.part (xs := cp4 e.l4 e.n4) (ys := PSL e.o e.l e.p) h0
    rwa [l4] at this
  have h6 : CellsAt W b 8 (cp6 e.l6 e.n6) := by
    have q : edC e = (cp4 e.l4 e.n4 ++ PSL e.o e.l e.p) ++ (cp6 e.l6 e.n6 ++ b8 e.ow) := by simp [edC]
    rw [q] at h0
    have := CellsAt.part h0
    simpa [l4, PSL] using this
  have hw : CellsAt W b 25 (b8 e.ow) := by
    have q : edC e = (cp4 e.l4 e.n4 ++ PSL e.o e.l e.p ++ cp6 e.l6 e.n6) ++ (b8 e.ow ++ []) := by simp [edC]
    rw [q] at h0
    have := CellsAt.part h0
    simpa [l4, l6, PSL] using this
  refine ⟨agg_load Tryd.isAgg45 Tryd.sizeOf45 (edC_length k4 k6 kw) h0, agg_loadVar Tryd.isAgg45 Tryd.sizeOf45 (edC_length k4 k6 kw) h0, agg_load Tryd.isAgg29 Tryd.sizeOf29 l4 h4, agg_load Tryd.isAgg34 Tryd.sizeOf34 rfl hS, loadP6 k6 h6, load6 k6 (CellsAt.fst h6), load6 kw hw, CellsAt.fst h4, hS 1 _ rfl, hS 2 _ rfl, ?_⟩
  have := h6 16 _ (cp6_get _ _ k6)
  simpa using this

/-- Blocks and what lies in them. -/
def HasAll (L : List (Nat × Obj)) (W : World) : Prop := ∀ p ∈ L, W.heap[p.1]? = some p.2
theorem HasAll.nil (W : World) : HasAll [] W := fun p hp => by cases hp
theorem HasAll.on {L : List (Nat × Obj)} {W W' : World} (h : HasAll L W) (hb : Below W.heap.size W W') : HasAll L W' := fun p hp => blk_on (h p hp) hb
theorem HasAll.only {L : List (Nat × Obj)} {W W' : World} {c : Nat} (h : HasAll L W) (hon : Only c W W') (hne : ∀ p ∈ L, p.1 ≠ c) : HasAll L W' := fun p hp => (hon.other p.1 (hne p hp)).trans (h p hp)
theorem HasAll.cons {L : List (Nat × Obj)} {W : World} {c : Nat} {o : Obj} (h : HasAll L W) (hb : W.heap[c]? = some o) : HasAll ((c, o) :: L) W := by
  intro p hp
  rcases List.mem_cons.1 hp with rfl | hp
  · exact hb
  · exact h p hp
theorem HasAll.lt {L : List (Nat × Obj)} {W : World} (h : HasAll L W) {p : Nat × Obj} (hp : p ∈ L) : p.1 < W.heap.size := (Array.getElem?_eq_some_iff.1 (h p hp)).1

theorem wp_effX {P : Program} {o : Oper} {a : Act} {d : Option Nat} {w w2 : World} {v : Value} {K : Act → World → Prop} {Q : Exit → Act → World → Prop} (hd : o.dst = d) (hrun : (execOp a.eval o).run P w = .ok (.value v) w2) (hK : K (a.put d v) w2) : o.wp P a w K Q := by
  subst hd
  unfold Oper.wp
  rw [hrun]
  exact hK
/-- A new box. -/
theorem wp_newX {P : Program} {o : Oper} {a : Act} {d : Option Nat} {w : World} {v : Nat → Value} {z : Obj} {K : Act → World → Prop} {Q : Exit → Act → World → Prop} (hd : o.dst = d) (hrun : (execOp a.eval o).run P w = .ok (.value (v w.heap.size)) (w.alloc z))
    (hK : ∀ c W', c = w.heap.size → W'.heap[c]? = some z → Below w.heap.size w W' → K (a.put d (v c)) W') : o.wp P a w K Q :=
  wp_effX hd hrun (hK _ _ rfl (blk_new w z) (bA w z))

theorem bytes_of {W : World} {b off cap : Nat} {l : List Int} (h : CellsAt W b off (b8 l)) (hf : FitB l) (hb : b < W.heap.size) (hl : l.length ≤ 16) : Fld.BytesAt W.heap.size W (.slice (some ⟨b, off, none⟩) l.length cap) l := by
  refine ⟨hf, by omega, _, _, rfl, .inr ⟨b, off, rfl, hb, fun j hj => ?_⟩⟩
  refine h j _ ?_
  rw [b8, List.getElem?_map, List.getElem?_eq_getElem hj]
  rfl
theorem ok_run (n v : Nat) (h : n ≤ 64) (hv : v < 2 ^ n) : Fld.runE n v = 0 := by
  unfold Fld.runE
  rw [if_neg (by omega), Int.toNat_natCast]
  have : Fld.wideB v n = false := by unfold Fld.wideB; simpa using hv
  rw [this]
  rfl
theorem u64_of (n v : Nat) (h : n ≤ 64) (hv : v < 2 ^ n) : v < 18446744073709551616 := by
  have : 2 ^ n ≤ 2 ^ 64 := Nat.pow_le_pow_right (by decide) h
  omega
abbrev run2L (a u b v : Nat) : List Value := [.int .i64 a, .int .u64 u, .int .i64 b, .int .u64 v]
theorem runs2 {W : World} {c a u b v : Nat} {t : TypeId} (h : W.heap[c]? = some (.cells (run2L a u b v).toArray t)) (ha : a ≤ 64) (hu : u < 2 ^ a) (hb : b ≤ 64) (hv : v < 2 ^ b) :
    Fld.RunsAt W.heap.size W (.slice (some ⟨c, 0, none⟩) 2 2) [((a : Int), u), ((b : Int), v)] ∧ Fld.allOk [((a : Int), u), ((b : Int), v)] 2 ∧ Fld.total [((a : Int), u), ((b : Int), v)] 2 = a + b := by
  have hlt := (Array.getElem?_eq_some_iff.1 h).1
  have u1 := u64_of a u ha hu
  have u2 := u64_of b v hb hv
  refine ⟨⟨fun j => ?_, _, _, rfl, .inr ⟨c, 0, rfl, hlt, fun j hj => ?_⟩⟩, fun j hj => ?_, ?_⟩
  · match j with
    | 0 => simp [Fld.rN, Fld.rV]; omega
    | 1 => simp [Fld.rN, Fld.rV]; omega
    | j + 2 => simp [Fld.rN, Fld.rV]
  · match j, hj with
    | 0, _ => exact ⟨blk_cell h rfl, blk_cell h rfl⟩
    | 1, _ => exact ⟨blk_cell h rfl, blk_cell h rfl⟩
  · match j, hj with
    | 0, _ => exact ok_run a u ha hu
    | 1, _ => exact ok_run b v hb hv
  · simp [Fld.total, Fld.rN]
abbrev run6L (a u b v c x y : Nat) : List Value := [.int .i64 a, .int .u64 u, .int .i64 b, .int .u64 v, .int .i64 c, .int .u64 0, .int .i64 16, .int .u64 0, .int .i64 32, .int .u64 x, .int .i64 16, .int .u64 y]
theorem runs6 {W : World} {k a u b v c x y : Nat} {t : TypeId} (h : W.heap[k]? = some (.cells (run6L a u b v c x y).toArray t)) (ha : a ≤ 64) (hu : u < 2 ^ a) (hb : b ≤ 64) (hv : v < 2 ^ b) (hc : a + b + c = 64) (hx : x < 2 ^ 32) (hy : y < 2 ^ 16) :
    Fld.RunsAt W.heap.size W (.slice (some ⟨k, 0, none⟩) 6 6) [((a : Int), u), ((b : Int), v), ((c : Int), 0), (16, 0), (32, x), (16, y)] ∧ Fld.allOk [((a : Int), u), ((b : Int), v), ((c : Int), 0), (16, 0), (32, x), (16, y)] 6 ∧ Fld.total [((a : Int), u), ((b : Int), v), ((c : Int), 0), (16, 0), (32, x), (16, y)] 6 = 128 := by
  have hlt := (Array.getElem?_eq_some_iff.1 h).1
  have u1 := u64_of a u ha hu
  have u2 := u64_of b v hb hv
  refine ⟨⟨fun j => ?_, _, _, rfl, .inr ⟨k, 0, rfl, hlt, fun j hj => ?_⟩⟩, fun j hj => ?_, ?_⟩
  · match j with
    | 0 => simp [Fld.rN, Fld.rV]; omega
    | 1 => simp [Fld.rN, Fld.rV]; omega
    | 2 => simp [Fld.rN, Fld.rV]; omega
    | 3 => simp [Fld.rN, Fld.rV]
    | 4 => simp [Fld.rN, Fld.rV]; omega
    | 5 => simp [Fld.rN, Fld.rV]; omega
    | j + 6 => simp [Fld.rN, Fld.rV]
  · match j, hj with
    | 0, _ => exact ⟨blk_cell h rfl, blk_cell h rfl⟩
    | 1, _ => exact ⟨blk_cell h rfl, blk_cell h rfl⟩
    | 2, _ => exact ⟨blk_cell h rfl, blk_cell h rfl⟩
    | 3, _ => exact ⟨blk_cell h rfl, blk_cell h rfl⟩
    | 4, _ => exact ⟨blk_cell h rfl, blk_cell h rfl⟩
    | 5, _ => exact ⟨blk_cell h rfl, blk_cell h rfl⟩
  · match j, hj with
    | 0, _ => exact ok_run a u ha hu
    | 1, _ => exact ok_run b v hb hv
    | 2, _ => exact ok_run c 0 (by omega) (Nat.two_pow_pos _)
    | 3, _ => exact ok_run 16 0 (by omega) (by decide)
    | 4, _ => exact ok_run 32 x (by omega) hx
    | 5, _ => exact ok_run 16 y (by omega) hy
  · simp [Fld.total, Fld.rN]
    omega
theorem load_run {W : World} {c : Nat} {n v : Int} (h : W.heap[c]? = some (.cells (RunL n v).toArray 98)) : (Instr.loadAt 98 (.pointer (some ⟨c, 0, none⟩))).run Tryd.prog W = .ok (RunV n v) W :=
  agg_load (t := 98) Tryd.isAgg98 Tryd.sizeOf98 rfl (CellsAt.of_blk h)
theorem and_mask (v q : Nat) (hv : v < 18446744073709551616) (hq : q ≤ 63) : bits .and .u64 (v : Int) ((2 : Int) ^ q - 1) = ((v % 2 ^ q : Nat) : Int) := by
  have h2 : 2 ^ q ≤ 2 ^ 63 := Nat.pow_le_pow_right (by decide) hq
  have h1 := Nat.two_pow_pos q
  have e : (2 : Int) ^ q - 1 = ((2 ^ q - 1 : Nat) : Int) := by
    have : (2 : Int) ^ q = ((2 ^ q : Nat) : Int) := by rw [Int.natCast_pow]; rfl
    rw [this]; omega
  rw [e, u64_and_nat v (2 ^ q - 1) hv (by omega), Nat.and_two_pow_sub_one_eq_mod]

theorem six2 {W : World} {c a u b v : Nat} {t : TypeId} {l : List Int} (h : W.heap[c]? = some (.cells (run2L a u b v).toArray t)) (ha : a ≤ 64) (hu : u < 2 ^ a) (hb : b ≤ 64) (hv : v < 2 ^ b) (hl : a + b ≤ 128) (he : padL (Fld.catRow [((a : Int), u), ((b : Int), v)] (a + b) 2) 16 = l) :
    Calls Tryd.prog 64 #[.slice (some ⟨c, 0, none⟩) 2 2] W fun e w' => e = .returned (A6 l) ∧ Below W.heap.size W w' := by
  obtain ⟨h1, h2, h3⟩ := runs2 h ha hu hb hv
  have hs := six_any _ _ W h1 (by simp) h2 (by show Fld.total _ 2 ≤ 128; omega)
  have e : padL (Fld.catRow [((a : Int), u), ((b : Int), v)] (Fld.total [((a : Int), u), ((b : Int), v)] 2) 2) 16 = l := by rw [h3]; exact he
  refine hs.mono fun e' w' hw => ⟨?_, hw.2⟩
  rw [hw.1, ← e]
  rfl
theorem four2 {W : World} {c a u b v : Nat} {t : TypeId} {l : List Int} (h : W.heap[c]? = some (.cells (run2L a u b v).toArray t)) (ha : a ≤ 64) (hu : u < 2 ^ a) (hb : b ≤ 64) (hv : v < 2 ^ b) (hl : a + b ≤ 32) (he : padL (Fld.catRow [((a : Int), u), ((b : Int), v)] (a + b) 2) 4 = l) :
    Calls Tryd.prog 65 #[.slice (some ⟨c, 0, none⟩) 2 2] W fun e w' => e = .returned (A4L l) ∧ Below W.heap.size W w' := by
  obtain ⟨h1, h2, h3⟩ := runs2 h ha hu hb hv
  have hs := four_any _ _ W h1 (by simp) h2 (by show Fld.total _ 2 ≤ 32; omega)
  have e : padL (Fld.catRow [((a : Int), u), ((b : Int), v)] (Fld.total [((a : Int), u), ((b : Int), v)] 2) 2) 4 = l := by rw [h3]; exact he
  refine hs.mono fun e' w' hw => ⟨?_, hw.2⟩
  rw [hw.1, ← e]
  rfl
theorem six6 {W : World} {k a u b v c x y : Nat} {t : TypeId} {l : List Int} (h : W.heap[k]? = some (.cells (run6L a u b v c x y).toArray t)) (ha : a ≤ 64) (hu : u < 2 ^ a) (hb : b ≤ 64) (hv : v < 2 ^ b) (hc : a + b + c = 64) (hx : x < 2 ^ 32) (hy : y < 2 ^ 16) (he : padL (Fld.catRow [((a : Int), u), ((b : Int), v), ((c : Int), 0), (16, 0), (32, x), (16, y)] 128 6) 16 = l) :
    Calls Tryd.prog 64 #[.slice (some ⟨k, 0, none⟩) 6 6] W fun e w' => e = .returned (A6 l) ∧ Below W.heap.size W w' := by
  obtain ⟨h1, h2, h3⟩ := runs6 h ha hu hb hv hc hx hy
  have hs := six_any _ _ W h1 (by simp) h2 (by show Fld.total _ 6 ≤ 128; omega)
  have e : padL (Fld.catRow [((a : Int), u), ((b : Int), v), ((c : Int), 0), (16, 0), (32, x), (16, y)] (Fld.total [((a : Int), u), ((b : Int), v), ((c : Int), 0), (16, 0), (32, x), (16, y)] 6) 6) 16 = l := by rw [h3]; exact he
  refine hs.mono fun e' w' hw => ⟨?_, hw.2⟩
  rw [hw.1, ← e]
  rfl
/-- Parts of an edge's box that are stored. -/
theorem splice3 {x y z V : List Value} {n m : Nat} (hx : x.length = n) (hy : y.length = m) : (x ++ (y ++ z)).take n ++ (V ++ (x ++ (y ++ z)).drop (n + m)) = x ++ (V ++ z) := by
  have e1 : (x ++ (y ++ z)).take n = x := by rw [← hx]; exact List.take_left
  have e2 : (x ++ (y ++ z)).drop (n + m) = z := by
    rw [← List.append_assoc, show n + m = (x ++ y).length by simp [hx, hy]]
    exact List.drop_left
  rw [e1, e2]
theorem ed_end {e : Ed} (k4 : e.l4.length = 4) (l : List Int) (n : Int) (k6 : e.l6.length = 16) : (edC e).take 8 ++ (cp6 l n ++ (edC e).drop (8 + 17)) = edC { e with l6 := l, n6 := n } := by
  have q : edC e = (cp4 e.l4 e.n4 ++ PSL e.o e.l e.p) ++ (cp6 e.l6 e.n6 ++ b8 e.ow) := by simp [edC]
  rw [q, splice3 (by simp [cp4_length e.l4 e.n4 k4]) (cp6_length e.l6 e.n6 k6)]
  simp [edC]
theorem ed_v4 {e : Ed} (k4 : e.l4.length = 4) (l : List Int) (n : Int) : (edC e).take 0 ++ (cp4 l n ++ (edC e).drop (0 + 5)) = edC { e with l4 := l, n4 := n } := by
  have q : edC e = [] ++ (cp4 e.l4 e.n4 ++ (PSL e.o e.l e.p ++ (cp6 e.l6 e.n6 ++ b8 e.ow))) := by simp [edC]
  rw [q, splice3 (x := []) (n := 0) rfl (cp4_length e.l4 e.n4 k4)]
  simp [edC]
theorem ed_set {e : Ed} (k4 : e.l4.length = 4) (o l p : Int) : (edC e).take 5 ++ (PSL o l p ++ (edC e).drop (5 + 3)) = edC { e with o := o, l := l, p := p } := by
  have q : edC e = cp4 e.l4 e.n4 ++ (PSL e.o e.l e.p ++ (cp6 e.l6 e.n6 ++ b8 e.ow)) := rfl
  rw [q, splice3 (y := PSL e.o e.l e.p) (m := 3) (cp4_length e.l4 e.n4 k4) rfl]
  simp [edC]
theorem ed_own {e : Ed} (k4 : e.l4.length = 4) (k6 : e.l6.length = 16) (kw : e.ow.length = 16) (l : List Int) : (edC e).take 25 ++ (b8 l ++ (edC e).drop (25 + 16)) = edC { e with ow := l } := by
  have q : edC e = (cp4 e.l4 e.n4 ++ PSL e.o e.l e.p ++ cp6 e.l6 e.n6) ++ (b8 e.ow ++ []) := by simp [edC]
  rw [q, splice3 (by simp [cp4_length e.l4 e.n4 k4, cp6_length e.l6 e.n6 k6]) (by rw [b8_length, kw])]
  simp [edC]
theorem ed_pid {e : Ed} (k4 : e.l4.length = 4) (p : Int) : (edC e).set 7 (.int .u16 p) = edC { e with p := p } := by
  have l4 := cp4_length e.l4 e.n4 k4
  unfold edC
  rw [List.set_append_right _ _ (by omega), l4]
  simp [PSL]

/-- The edge of EA bits. -/
def edg (r : Ru) (v : Nat) : Ed := ⟨v4L r v, r.n4 + hB r, if 0 < qB r then r.off else 0, qB r, (pidV r v : Nat), endL r v, r.n6 + r.ea, ownL r v⟩

end Go.Proofs.YtloadmpappjceaaDoor
