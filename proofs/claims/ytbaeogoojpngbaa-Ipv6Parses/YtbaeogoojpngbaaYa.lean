/-
  Parse of package ipv6, where there are no heads.
-/
import Derived.Test.YtbaeogoojpngbaaY9
import Derived.Recover
import Derived.WalkLawsBesides
import Derived.Defers
namespace Go.Proofs.Ytbaeogoojpngbaa
open Go Go.RowKit
set_option linter.unusedVariables false
set_option linter.unusedSimpArgs false

theorem ta_yes (v : Value) (w : World) : (Instr.typeAssert (.iface 58 v) 20 58 true).run Try.prog w = .ok (.tuple #[v, .bool true]) w := by
  simp [Instr.typeAssert, Try.underlying58, go_sem]
theorem ta_no (w : World) : (Instr.typeAssert .nilIface 20 58 true).run Try.prog w = .ok (.tuple #[.agg #[.int .i64 0, .int .i64 0], .bool false]) w := by
  simp [Instr.typeAssert, Try.underlying58, go_sem]
/-- The three results' boxes. -/
structure BoxW (w0 W : World) (Q : Nat) (c : List Value) (x y : Int) : Prop where
  vb : W.heap[Q]? = some (.cells c.toArray 28)
  len : c.length = 42
  xb : W.heap[Q + 1]? = some (.cells [.int .i64 x].toArray 3)
  yb : W.heap[Q + 2]? = some (.cells [.int .i64 y].toArray 29)
  bel : Below w0.heap.size w0 W
  up : w0.heap.size ≤ Q

section
variable {w0 W W' : World} {Q : Nat} {c : List Value} {x y : Int}
theorem BoxW.on (h : BoxW w0 W Q c x y) (hb : Below W.heap.size W W') : BoxW w0 W' Q c x y :=
  ⟨blk_on h.vb hb, h.len, blk_on h.xb hb, blk_on h.yb hb, h.bel.trans (hb.mono h.bel.size), h.up⟩
theorem BoxW.drew (h : BoxW w0 W Q c x y) : BoxW w0 W.drew Q c x y := ⟨h.vb, h.len, h.xb, h.yb, h.bel.drew, h.up⟩
theorem BoxW.sets (h : BoxW w0 W Q c x y) (V : List Value) (hV : V.length = 42) (h1 : ∀ v ∈ V, v.oneCell' = true) :
    ∃ w2, (Instr.storeAt 28 (.pointer (some ⟨Q, 0, none⟩)) (.agg V.toArray)).run Try.prog W = .ok () w2 ∧ BoxW w0 w2 Q V x y ∧ Only Q W w2 := by
  have hO : Only Q W (W.setCells Q 0 V) := Only.sets _ _ _ (Only.refl _ _)
  refine ⟨_, agg_store Try.sizeOf28 hV h1 (fun j hj => ?_) (blk_open h.vb), ⟨?_, hV, (hO.other _ (by omega)).trans h.xb, (hO.other _ (by omega)).trans h.yb, h.bel.trans (hO.below h.up), h.up⟩, hO⟩
  · have : j < c.length := by have := h.len; omega
    simp [World.cell?, h.vb, this]
  · have hc := h.len
    have := blk_sets V 0 c W h.vb
    rwa [setsL_all c V (by omega)] at this
theorem BoxW.setX (h : BoxW w0 W Q c x y) (z : Int) : BoxW w0 (W.setCell ⟨Q + 1, 0, none⟩ (.int .i64 z)) Q c z y :=
  ⟨blk_set_other h.vb (by omega) _ _, h.len, by rw [blk_set h.xb]; rfl, blk_set_other h.yb (by omega) _ _, h.bel.setCell (by have := h.up; simp; omega) _, h.up⟩
theorem BoxW.setY (h : BoxW w0 W Q c x y) (z : Int) : BoxW w0 (W.setCell ⟨Q + 2, 0, none⟩ (.int .i64 z)) Q c x z :=
  ⟨blk_set_other h.vb (by omega) _ _, h.len, blk_set_other h.xb (by omega) _ _, by rw [blk_set h.yb]; rfl, h.bel.setCell (by have := h.up; simp; omega) _, h.up⟩
end
theorem BoxW.start (w : World) : BoxW w (((w.alloc (.cells zeroV.toArray 28)).alloc (.cells #[.int .i64 0] 3)).alloc (.cells #[.int .i64 0] 29)) w.heap.size zeroV 0 0 := by
  have h1 := blk_new (w.alloc (.cells zeroV.toArray 28)) (.cells #[.int .i64 0] 3)
  have h2 := blk_new ((w.alloc (.cells zeroV.toArray 28)).alloc (.cells #[.int .i64 0] 3)) (.cells #[.int .i64 0] 29)
  rw [show (w.alloc (.cells zeroV.toArray 28)).heap.size = w.heap.size + 1 by simp] at h1
  rw [show ((w.alloc (.cells zeroV.toArray 28)).alloc (.cells #[.int .i64 0] 3)).heap.size = w.heap.size + 2 by simp] at h2
  exact ⟨blk_alloc (blk_alloc (blk_new w _) _) _, rfl, blk_alloc h1 _, h2, (((Below.refl w.heap.size w).alloc (Nat.le_refl _) _).alloc (by simp) _).alloc (by simp; omega) _, Nat.le_refl _⟩
theorem BoxW.load {w0 W : World} {Q : Nat} {c : List Value} {x y : Int} (h : BoxW w0 W Q c x y) : (loadVar 28 ⟨Q, 0, none⟩).run Try.prog W = .ok (.agg c.toArray) W :=
  agg_loadVar Try.isAgg28 Try.sizeOf28 h.len (CellsAt.of_blk h.vb)
theorem BoxW.loadX {w0 W : World} {Q : Nat} {c : List Value} {x y : Int} (h : BoxW w0 W Q c x y) : (loadVar 3 ⟨Q + 1, 0, none⟩).run Try.prog W = .ok (.int .i64 x) W := by
  have := blk_cell h.xb (j := 0) rfl
  simp [loadVar, go_sem, this]
theorem BoxW.loadY {w0 W : World} {Q : Nat} {c : List Value} {x y : Int} (h : BoxW w0 W Q c x y) : (loadVar 29 ⟨Q + 2, 0, none⟩).run Try.prog W = .ok (.int .i64 y) W := by
  have := blk_cell h.yb (j := 0) rfl
  simp [loadVar, go_sem, this]
theorem resC {P : Program} {fn : Func} {a b c : Tmp} {t u s : TypeId} (h : fn.results = #[.cell a t, .cell b u, .cell c s]) {tmps : Array Value} {A B C : Addr} (ha : tmps.getD a undef = .pointer (some A)) (hb : tmps.getD b undef = .pointer (some B)) (hc : tmps.getD c undef = .pointer (some C)) {x y z : Value} {w : World}
    (hx : (loadVar t A).run P w = .ok x w) (hy : (loadVar u B).run P w = .ok y w) (hz : (loadVar s C).run P w = .ok z w) :
    (results fn tmps).run P w = .ok (.tuple #[x, y, z]) w := by
  rw [Array.getD_eq_getD_getElem?] at ha hb hc
  simp [results, h, ha, hb, hc, asAddr, hx, hy, hz]

set_option maxHeartbeats 2000000 in
set_option maxRecDepth 100000 in
theorem catch_idle (p q r : Addr) (w : World) :
    CallsD Try.prog 30 #[.pointer (some p), .pointer (some q), .pointer (some r)] .returning w fun e u' w' => e = .returned (.tuple #[]) ∧ u' = .returning ∧ Below w.heap.size w w' := by
  have hB := ((Below.refl w.heap.size w).alloc (Nat.le_refl _) (.cells #[.int .i64 0, .int .i64 0] 58))
  have ht := ta_no w
  refine callsD_of_wpS Try.func30 rfl fun c₀ cs hu => ?_
  apply wpS_seq
  refine wpS_region_rec (v := .nilIface) (cs' := c₀ :: cs) rfl rfl (by simp [recoverD, hu]) ?_
  simp only [Try.ntmps30, List.size_toArray, List.length_cons, List.length_nil, Nat.reduceAdd, Nat.reduceSub, Array.replicate_succ, Array.replicate_zero, List.push_toArray, List.append_toArray, List.nil_append, List.cons_append, Act.put, List.setIfInBounds_toArray, List.set_cons_zero, List.set_cons_succ]
  go_wp2
  refine wpS_of_wp ?_
  go_wp2
  cases c₀
  simp_all [bodyPostS, results, Try.results30]

section
variable {w : World} {v : Value} {zs : List Int}
set_option maxHeartbeats 2000000 in
set_option maxRecDepth 100000 in
theorem Parse_plain (h : BS (fun b => b < w.heap.size) w v zs) (hl : 40 ≤ zs.length) (h6 : gz zs 0 / 16 = 6) (hlen : lenN zs = (zs.length : Int) - 40) (hk : isH (gz zs 6) = false) (hk4 : gz zs 6 ≠ 44) (hA : ((zs.drop 8).take 32).length = 32) :
    Calls Try.prog 15 #[v] w fun e w' => ∃ vb, e = .returned (.tuple #[VV (finF (clsN zs) (labN zs) (gz zs 7) (gz zs 6) ((zs.drop 8).take 32) hA) zG (.slice none 0 0) vb, .int .i64 0, .int .i64 0]) ∧ BS (fun b => w.heap.size + 3 ≤ b) w' vb (zs.drop 40) ∧ Below w.heap.size w w' := by
  have hmf : ∀ (fn : Fn) (first cap : Array Value) (w : World), (Instr.makeFunc fn first cap).run Try.prog w = .ok (.func fn first cap) w := fun _ _ _ _ => rfl
  have hB := BoxW.start w
  obtain ⟨W0, hW0⟩ : ∃ W0, W0 = (((w.alloc (.cells zeroV.toArray 28)).alloc (.cells #[.int .i64 0] 3)).alloc (.cells #[.int .i64 0] 29)) := ⟨_, rfl⟩
  rw [← hW0] at hB
  have hsz : W0.heap.size = w.heap.size + 3 := by rw [hW0]; simp
  have h0 : BS (fun b => b < W0.heap.size) W0 v zs := (h.on hB.bel).mono (fun b hb _ => hb)
  have hbeg := begin_long h0 hl (fun e w' => ∃ left, e = .returned (.tuple #[.pointer (some ⟨W0.heap.size, 0, none⟩), .int .i64 (lenN zs)]) ∧ RB (fun b => b < W0.heap.size) w' W0.heap.size (zs.drop 6) 6 (c0 (clsN zs) (labN zs)) 0 left ∧ Below W0.heap.size W0 w') (fun hn => absurd h6 hn) (fun _ w' left hr hb => ⟨left, rfl, hr, hb⟩)
  have HD : Hid (∀ W left, RB (fun b => b < W0.heap.size) W W0.heap.size (zs.drop 6) 6 (c0 (clsN zs) (labN zs)) 0 left → Below W0.heap.size W0 W → Calls Try.prog 33 #[.pointer (some ⟨W0.heap.size, 0, none⟩)] W fun e w' => ∃ vb, e = .returned (VV (finF (clsN zs) (labN zs) (gz zs 7) (gz zs 6) ((zs.drop 8).take 32) hA) zG (.slice none 0 0) vb) ∧ BS (fun b => W.heap.size ≤ b) w' vb (zs.drop 40) ∧ Below W0.heap.size W0 w') := fun W left hr hb => datagram_plain hr (Nat.le_refl _) hb hl hk hk4 hA
  have HC : Hid _ := hbeg
  have HB : Hid _ := hB
  have HSZ : Hid (W0.heap.size = w.heap.size + 3) := hsz
  obtain ⟨FF, hFF⟩ : ∃ FF, finF (clsN zs) (labN zs) (gz zs 7) (gz zs 6) ((zs.drop 8).take 32) hA = FF := ⟨_, rfl⟩
  rw [hFF] at HD ⊢
  obtain ⟨_, _, a, cap, e, _⟩ := h.row
  subst e
  rw [hlen] at HC
  have q : ((zs.length : Int) - 40 == (zs.length : Int) - 40) = true := by simp
  have hm := h.row.len
  obtain ⟨zl, hzl⟩ : ∃ n, zs.length = n := ⟨_, rfl⟩
  rw [hzl] at HC q hl hm ⊢
  obtain ⟨R, hR⟩ : ∃ R, W0.heap.size = R := ⟨_, rfl⟩
  have HRS : Hid _ := hR
  rw [hR] at HC HD HSZ
  have hW := hW0.symm
  unfold zeroV at hW
  clear hbeg hB hsz h0 h hlen hk hk4 h6 hFF hW0 hzl hR
  go_enter_defers Try.func15, Try.ntmps15
  go_wp2_with fail
  refine Calls.mono HC.out ?_
  rintro e1 w1 ⟨left, rfl, hr1, hb1⟩
  have HD1 : Hid _ := HD.out w1 left hr1 hb1
  have HS1 : Hid (R ≤ w1.heap.size) := by have := hb1.size; have := HRS.out; show R ≤ w1.heap.size; omega
  clear hr1 hb1 HC HD hW
  go_wp2_with fail
  refine Calls.mono (must_good _ _ _) ?_
  rintro e2 w2 ⟨rfl, hw2⟩
  obtain rfl := hw2.symm
  clear hw2
  go_wp2_with fail
  refine Calls.mono HD1.out ?_
  rintro e5 w5 ⟨vb, rfl, hb5, hB5⟩
  have hx5 := HB.out.on (by rw [HRS.out]; exact hB5)
  obtain ⟨w6, hst6, hB6, hO6⟩ := hx5.sets (vC FF zG (.slice none 0 0) vb) vC_len (vC_one rfl hb5.one)
  have m1 := blk_cell hB6.xb (j := 0) rfl
  have n1 := blk_open hB6.xb 0
  have m2 := blk_cell hB6.yb (j := 0) rfl
  have n2 := blk_open hB6.yb 0
  have hlo : w.heap.size + 3 ≤ w1.heap.size := by have := HS1.out; have := HSZ.out; omega
  have hq6 := ((hb5.sep (Sep.of_only (O := fun b => b = w.heap.size) hO6 rfl) (fun b hb e => by omega)).sep (Sep.of_only (O := fun b => b = w.heap.size + 1) ((Only.refl (w.heap.size + 1) w6).set 0 (.int .i64 0)) rfl) (fun b hb e => by omega)).sep (Sep.of_only (O := fun b => b = w.heap.size + 2) ((Only.refl (w.heap.size + 2) _).set 0 (.int .i64 0)) rfl) (fun b hb e => by omega)
  have HQ : Hid _ := hq6.mono (S' := fun b => w.heap.size + 3 ≤ b) (fun b _ hb => by omega)
  have HB7 : Hid _ := (hB6.setX 0).setY 0
  have HST : Hid _ := hst6
  clear hb5 hB5 hx5 hB6 hO6 hst6 hq6 hlo HB HD1 HS1 HSZ HRS
  go_wp2_with ((with_reducible show wpList _ _ _ ({ dst := _, op := Op.store 28 _ _, type := _, pos := _, after := _, guard := _ } :: _) _ _); refine armS (.tmp 2) (.tmp 20) 28 rfl rfl rfl rfl HST.out ?_; try simp only [Act.put])
  refine leaves_cons (f := 30) (args := #[.pointer (some ⟨w.heap.size, 0, none⟩), .pointer (some ⟨w.heap.size + 1, 0, none⟩), .pointer (some ⟨w.heap.size + 2, 0, none⟩)]) (by simp) (by simp [go_sem]) ?_
  refine (catch_idle _ _ _ _).mono ?_
  rintro e9 u9 w9 ⟨rfl, rfl, hb9⟩
  have h9 := HB7.out.on hb9
  exact ⟨_, resC rfl rfl rfl rfl h9.load h9.loadX h9.loadY, _, rfl, HQ.out.on hb9, h9.bel⟩
end

end Go.Proofs.Ytbaeogoojpngbaa
