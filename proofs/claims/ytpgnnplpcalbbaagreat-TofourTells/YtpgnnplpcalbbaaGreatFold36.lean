/-
  The box of an error, results of two boxes, a store by hand (as Xt4, Xt5; by names of their own).
  Small functions of package tofour: must, good, what catches, wordOf, putWord, checkAt, protocol, leastBody.
  Tells of the document, of any datagram.
-/
import Derived.Test.YtpgnnplpcalbbaaGreatFold35
import Derived.Test.YtpgnnplpcalbbaaGreatFold07
import Derived.Defers
import Derived.Recover
import Derived.Test.YtpgnnplpcalbbaaGreatFold34
import Derived.Test.YtpgnnplpcalbbaaGreatFold20
import Derived.Test.YtpgnnplpcalbbaaGreatFold33
set_option linter.unusedVariables false
set_option linter.unusedSimpArgs false
namespace Go.Proofs.YtpgnnplpcalbbaaGreat
open Go Go.RowKit Go.Shelf
def eBoxS (x : Int) : Obj := .cells [.int .i64 x].toArray 37
theorem loadErrS {W : World} {b : Nat} {x : Int} (h : W.heap[b]? = some (eBoxS x)) : (loadVar 37 ⟨b, 0, none⟩).run Tryz.prog W = .ok (.int .i64 x) W := by
  have c := blk_cell h (j := 0) rfl
  simp [go_sem, c]
theorem resCCS {P : Program} {fn : Func} {a b : Tmp} {t u : TypeId} (h : fn.results = #[.cell a t, .cell b u]) {tmps : Array Value} {A B : Addr} (ha : tmps.getD a undef = .pointer (some A)) (hb : tmps.getD b undef = .pointer (some B)) {x y : Value} {w : World} (hx : (loadVar t A).run P w = .ok x w) (hl : (loadVar u B).run P w = .ok y w) :
    (results fn tmps).run P w = .ok (.tuple #[x, y]) w := by
  rw [Array.getD_eq_getD_getElem?] at ha hb
  simp [results, h, ha, hb, asAddr, hx, hl]
theorem st_errS {W : World} {b : Nat} {x y : Int} (h : W.heap[b]? = some (eBoxS x)) : (Instr.storeAt 37 (.pointer (some ⟨b, 0, none⟩)) (.int .i64 y)).run Tryz.prog W = .ok () (W.setCell ⟨b, 0, none⟩ (.int .i64 y)) := by
  have h1 : W.cell? ⟨b, 0, none⟩ = some (.int .i64 x) := blk_cell h rfl
  have h2 := blk_open h 0
  simp [Instr.storeAt, go_sem, h1, h2]
theorem armSS {P : Program} {w w2 : World} {ops : Array Oper} {rest : List Oper} {o : Oper} {a : Act} {Q : Exit → Act → World → Prop} (p x : Operand) (t : TypeId) (hop : o.op = Op.store t p x) (hg : o.guard = none) {vp vx : Value} (hp : a.eval p = vp) (hx : a.eval x = vx) (hrun : (Instr.storeAt t vp vx).run P w = .ok () w2) (hK : wpList P ops Q rest (a.put o.dst (.tuple #[])) w2) : wpList P ops Q (o :: rest) a w :=
  arm_store (by simp [Region.wanted, hg]) p x t hop hp hx hrun hK
end Go.Proofs.YtpgnnplpcalbbaaGreat
namespace Go.Proofs.YtpgnnplpcalbbaaGreat
open Go Go.RowKit Go.Shelf
def guS (e : Int) : PanicEntry := { v := .iface 202 (.int .i64 e), recovered := false }
theorem ta_noS (w : World) : (Instr.typeAssert .nilIface 20 202 true).run Tryz.prog w = .ok (.tuple #[.int .i64 0, .bool false]) w := by
  simp [Instr.typeAssert, Tryz.underlying202, go_sem]
theorem ta_yesS (v : Value) (w : World) : (Instr.typeAssert (.iface 202 v) 20 202 true).run Tryz.prog w = .ok (.tuple #[v, .bool true]) w := by
  simp [Instr.typeAssert, Tryz.underlying202, go_sem]
set_option maxHeartbeats 2000000 in
set_option maxRecDepth 100000 in
theorem catch_idleS (p : Addr) (w : World) :
    CallsD Tryz.prog 166 #[.pointer (some p)] .returning w fun e u' w' => e = .returned (.tuple #[]) ∧ u' = .returning ∧ w' = w := by
  have ht := ta_noS w
  refine callsD_of_wpS Tryz.func166 rfl fun c₀ cs hu => ?_
  apply wpS_seq
  refine V6.wpS_region_rec (v := .nilIface) (cs' := c₀ :: cs) rfl rfl (by simp [recoverD, hu]) ?_
  simp only [Tryz.ntmps166, List.size_toArray, List.length_cons, List.length_nil, Nat.reduceAdd, Nat.reduceSub, Array.replicate_succ, Array.replicate_zero, List.push_toArray, List.append_toArray, List.nil_append, List.cons_append, Act.put, List.setIfInBounds_toArray, List.set_cons_zero, List.set_cons_succ]
  go_wp2
  refine wpS_of_wp ?_
  go_wp2
  cases c₀
  simp_all [bodyPostS, results, Tryz.results166]
set_option maxHeartbeats 2000000 in
set_option maxRecDepth 100000 in
theorem catch_faultS (Q : Nat) (x e : Int) (w : World) (h : w.heap[Q]? = some (eBoxS x)) :
    CallsD Tryz.prog 166 #[.pointer (some ⟨Q, 0, none⟩)] (.panicking [guS e]) w fun e' u' w' => e' = .returned (.tuple #[]) ∧ u' = .panicking [{ v := .iface 202 (.int .i64 e), recovered := true }] ∧ w'.heap[Q]? = some (eBoxS e) ∧ Only Q w w' := by
  have ht := ta_yesS (.int .i64 e) w
  have HS : Hid _ := st_errS (y := e) h
  have HB : Hid ((w.setCell ⟨Q, 0, none⟩ (.int .i64 e)).heap[Q]? = some (eBoxS e)) := blk_set h 0 (.int .i64 e)
  have HO : Hid (Only Q w (w.setCell ⟨Q, 0, none⟩ (.int .i64 e))) := (Only.refl Q w).set 0 _
  clear h
  unfold guS
  refine callsD_of_wpS Tryz.func166 rfl fun c₀ cs hu => ?_
  apply wpS_seq
  refine V6.wpS_region_rec (v := .iface 202 (.int .i64 e)) (cs' := { c₀ with mode := .panicking [{ v := .iface 202 (.int .i64 e), recovered := true }] } :: cs) rfl rfl (by simp [recoverD, hu]) ?_
  simp only [Tryz.ntmps166, List.size_toArray, List.length_cons, List.length_nil, Nat.reduceAdd, Nat.reduceSub, Array.replicate_succ, Array.replicate_zero, List.push_toArray, List.append_toArray, List.nil_append, List.cons_append, Act.put, List.setIfInBounds_toArray, List.set_cons_zero, List.set_cons_succ]
  go_wp2
  refine wpS_of_wp ?_
  go_wp2_with ((with_reducible show wpList _ _ _ _ _ _); refine armSS (.tmp 0) (.tmp 11) 37 rfl rfl rfl rfl HS.out ?_)
  exact ⟨rfl, _, rfl, _, results_none rfl _ _ _, rfl, rfl, HB.out, HO.out⟩
set_option maxHeartbeats 1000000 in
theorem must_goodS (e : Int) (w : World) : Calls Tryz.prog 93 #[.bool true, .int .i64 e] w fun e' w' => e' = .returned (.tuple #[]) ∧ w' = w := by
  go_enter Tryz.func93, Tryz.ntmps93
  go_wp2
  go_end0
  exact ⟨rfl, rfl⟩
set_option maxHeartbeats 1000000 in
theorem good_goodS (w : World) : Calls Tryz.prog 92 #[.int .i64 0] w fun e' w' => e' = .returned (.tuple #[]) ∧ w' = w := by
  go_enter Tryz.func92, Tryz.ntmps92
  go_wp2_with fail
  refine Calls.mono (must_goodS 0 w) ?_
  rintro _ _ ⟨rfl, rfl⟩
  go_wp2
  go_end0
  exact ⟨rfl, rfl⟩
set_option maxHeartbeats 1000000 in
theorem must_badS (e : Int) (w : World) : Calls Tryz.prog 93 #[.bool false, .int .i64 e] w fun e' w' => e' = .panicked [guS e] ∧ w' = w := by
  unfold guS
  go_enter Tryz.func93, Tryz.ntmps93
  go_wp2
  exact ⟨rfl, rfl, rfl⟩
set_option maxHeartbeats 1000000 in
theorem good_badS (e : Int) (he : e ≠ 0) (w : World) : Calls Tryz.prog 92 #[.int .i64 e] w fun e' w' => e' = .panicked [guS e] ∧ w' = w := by
  have q0 : (e == 0) = false := by simpa using he
  have HB : Hid _ := must_badS e w
  clear he
  go_enter Tryz.func92, Tryz.ntmps92
  go_wp2_with fail
  refine Calls.mono HB.out ?_
  rintro _ _ ⟨rfl, rfl⟩
  exact ⟨rfl, rfl, rfl⟩
set_option maxHeartbeats 1000000 in
set_option maxRecDepth 100000 in
theorem wordOf_callsS (b off n cap : Nat) (x y : Int) (w : World) (hn : 2 ≤ n) (h0 : w.cell? ⟨b, off, none⟩ = some (.int .u8 x)) (h1 : w.cell? ⟨b, off + 1, none⟩ = some (.int .u8 y)) (bx : 0 ≤ x ∧ x < 256) (by' : 0 ≤ y ∧ y < 256) :
    Calls Tryz.prog 172 #[.slice (some ⟨b, off, none⟩) n cap] w fun e w' => e = .returned (.int .u16 (x * 256 + y)) ∧ w' = w.drew := by
  have hor := or_word x y bx.1 bx.2 by'.1 by'.2
  have q0 : (0 : Int) < (n : Int) := by omega
  have q1 : (1 : Int) < (n : Int) := by omega
  go_enter Tryz.func172, Tryz.ntmps172
  go_wp2
  go_region
  all_goals
    go_wp2
    go_ret
    exact ⟨rfl, rfl⟩
set_option maxHeartbeats 1000000 in
set_option maxRecDepth 100000 in
theorem putWord_callsS (b o n cap : Nat) (zs : List Int) (x : Int) (w : World) (h : OwnG w b zs) (hn : 2 ≤ n) (ho : o + n ≤ zs.length) (hx : 0 ≤ x ∧ x ≤ 65535) (hs : zs.length ≤ 1000000) :
    Calls Tryz.prog 223 #[.slice (some ⟨b, o, none⟩) n cap, .int .u16 x] w fun e w' => e = .returned (.tuple #[]) ∧ OwnG w' b (putL zs o x) ∧ Only b w w' := by
  have c0 := h.cell o (by omega)
  have c1 := h.cell (o + 1) (by omega)
  have f0 := h.open o
  have f1 := h.open (o + 1)
  have hn0 : (0 : Int) < (n : Int) := by omega
  have hn1 : (1 : Int) < (n : Int) := by omega
  have H : Hid _ := h
  clear h
  go_enter Tryz.func223, Tryz.ntmps223
  go_wp2
  go_end0
  exact ⟨rfl, (H.out.set o (by omega) _).set (o + 1) (by simp; omega) _, ((Only.refl _ _).set _ _).set _ _⟩
/-- A protocol as IPv4 names it. -/
def protS (p : Int) : Int := if p = 58 then 1 else p
def wrongS (p : Int) : Bool := decide (p = 0) || decide (p = 1) || decide (p = 43) || decide (p = 44) || decide (p = 60)
set_option maxHeartbeats 1000000 in
set_option maxRecDepth 100000 in
theorem protocol_yes (p : Int) (h : wrongS p = false) (w : World) : Calls Tryz.prog 169 #[.int .u8 p] w fun e w' => e = .returned (.int .u8 (protS p)) ∧ w' = w := by
  by_cases h1 : p = 58
  · subst h1
    go_enter Tryz.func169, Tryz.ntmps169
    go_wp2
    go_ret
    exact ⟨rfl, rfl⟩
  · have e : protS p = p := if_neg h1
    rw [e]
    simp only [wrongS, Bool.or_eq_false_iff, decide_eq_false_iff_not] at h
    obtain ⟨⟨⟨⟨a0, a1⟩, a2⟩, a3⟩, a4⟩ := h
    have q1 : (p == 58) = false := by simpa using h1
    have q2 : (p == 0) = false := by simpa using a0
    have q3 : (p == 1) = false := by simpa using a1
    have q4 : (p == 43) = false := by simpa using a2
    have q5 : (p == 44) = false := by simpa using a3
    have q6 : (p == 60) = false := by simpa using a4
    clear e a0 a1 a2 a3 a4 h1
    go_enter Tryz.func169, Tryz.ntmps169
    go_wp2
    go_ret
    exact ⟨rfl, rfl⟩
set_option maxHeartbeats 2000000 in
set_option maxRecDepth 100000 in
theorem protocol_no (p : Int) (h : wrongS p = true) (w : World) : Calls Tryz.prog 169 #[.int .u8 p] w fun e w' => e = .panicked [guS 171] ∧ w' = w := by
  simp only [wrongS, Bool.or_eq_true, decide_eq_true_eq] at h
  unfold guS
  rcases h with (((rfl | rfl) | rfl) | rfl) | rfl
  · go_enter Tryz.func169, Tryz.ntmps169
    go_wp2
    exact ⟨rfl, rfl, rfl⟩
  · go_enter Tryz.func169, Tryz.ntmps169
    go_wp2
    exact ⟨rfl, rfl, rfl⟩
  · go_enter Tryz.func169, Tryz.ntmps169
    go_wp2
    exact ⟨rfl, rfl, rfl⟩
  · go_enter Tryz.func169, Tryz.ntmps169
    go_wp2
    exact ⟨rfl, rfl, rfl⟩
  · go_enter Tryz.func169, Tryz.ntmps169
    go_wp2
    exact ⟨rfl, rfl, rfl⟩
set_option maxHeartbeats 2000000 in
set_option maxRecDepth 100000 in
theorem wrong6_calls (p : Int) (w : World) : Calls Tryz.prog 99 #[.int .u8 p] w fun e w' => e = .returned (.bool (wrongS p)) ∧ w' = w := by
  have HE : Hid (∀ b : Bool, ((p == 0) || (p == 1) || (p == 43) || (p == 44) || (p == 60)) = b → b = wrongS p) := by
    intro b hb
    rw [← hb]
    rfl
  generalize wrongS p = r at *
  go_enter Tryz.func99, Tryz.ntmps99
  go_wp2
  all_goals (go_ret; refine ⟨congrArg (fun b => Ending.returned (.bool b)) (HE.out _ ?_), rfl⟩; simp_all)
def leastS (p : Int) : Int := if p = 6 then 20 else if p = 17 then 8 else 0
set_option maxHeartbeats 1000000 in
set_option maxRecDepth 100000 in
theorem leastBody_callsS (p : Int) (w : World) : Calls Tryz.prog 171 #[.int .u8 p] w fun e w' => e = .returned (.int .i64 (leastS p)) ∧ w' = w := by
  unfold leastS
  by_cases h1 : p = 6
  · subst h1
    go_enter Tryz.func171, Tryz.ntmps171
    go_wp2
    go_ret
    exact ⟨rfl, rfl⟩
  · by_cases h2 : p = 17
    · subst h2
      go_enter Tryz.func171, Tryz.ntmps171
      go_wp2
      go_ret
      exact ⟨rfl, rfl⟩
    · rw [if_neg h1, if_neg h2]
      have q1 : (p == 6) = false := by simpa using h1
      have q2 : (p == 17) = false := by simpa using h2
      clear h1 h2
      go_enter Tryz.func171, Tryz.ntmps171
      go_wp2
      go_ret
      exact ⟨rfl, rfl⟩
end Go.Proofs.YtpgnnplpcalbbaaGreat
namespace Go.Proofs.YtpgnnplpcalbbaaGreat
open Go Go.RowKit Go.Shelf
set_option maxHeartbeats 4000000 in
set_option maxRecDepth 100000 in
theorem RTells6_calls (f : V6.F6) (g : V6.G6) (vh vb : Value) (hs : V6.Opts) (A B body : List Int) (w : World) (h : SIn w f vh vb hs A B body) (hoff : -9223372036854775808 ≤ g.off ∧ g.off ≤ 9223372036854775807) :
    Calls Tryz.prog 46 #[V6.VV f g vh vb] w (SOut (V6.ckE f hs g body.length) g f.proto A B body w) := by
  obtain ⟨W0, hW0⟩ : ∃ W0, w.alloc (V6.BV f g vh vb) = W0 := ⟨_, rfl⟩
  obtain ⟨W1, hW1⟩ : ∃ W1, W0.alloc (.cells [.int .u8 0, .int .u8 0, .int .u8 0, .int .u8 0, .int .u8 0, .int .u8 0, .int .u8 0, .int .u8 0, .int .u8 0, .int .u8 0, .int .u8 0, .int .u8 0, .int .u8 0, .int .u8 0, .int .u8 0, .int .u8 0, .int .u8 0, .int .u8 0, .int .u8 0, .int .u8 0, .int .u8 0, .int .u8 0, .int .u8 0, .int .u8 0, .int .u8 0, .int .u8 0, .int .u8 0, .int .u8 0, .int .u8 0, .int .u8 0, .int .u8 0, .int .u8 0].toArray 31) = W1 := ⟨_, rfl⟩
  have b0 := blk_new w (V6.BV f g vh vb)
  have hB0 := (Below.refl w.heap.size w).alloc (Nat.le_refl _) (V6.BV f g vh vb)
  rw [hW0] at b0 hB0
  have b1 := blk_new W0 (.cells [.int .u8 0, .int .u8 0, .int .u8 0, .int .u8 0, .int .u8 0, .int .u8 0, .int .u8 0, .int .u8 0, .int .u8 0, .int .u8 0, .int .u8 0, .int .u8 0, .int .u8 0, .int .u8 0, .int .u8 0, .int .u8 0, .int .u8 0, .int .u8 0, .int .u8 0, .int .u8 0, .int .u8 0, .int .u8 0, .int .u8 0, .int .u8 0, .int .u8 0, .int .u8 0, .int .u8 0, .int .u8 0, .int .u8 0, .int .u8 0, .int .u8 0, .int .u8 0].toArray 31)
  have hB1 := (Below.refl W0.heap.size W0).alloc (Nat.le_refl _) (.cells [.int .u8 0, .int .u8 0, .int .u8 0, .int .u8 0, .int .u8 0, .int .u8 0, .int .u8 0, .int .u8 0, .int .u8 0, .int .u8 0, .int .u8 0, .int .u8 0, .int .u8 0, .int .u8 0, .int .u8 0, .int .u8 0, .int .u8 0, .int .u8 0, .int .u8 0, .int .u8 0, .int .u8 0, .int .u8 0, .int .u8 0, .int .u8 0, .int .u8 0, .int .u8 0, .int .u8 0, .int .u8 0, .int .u8 0, .int .u8 0, .int .u8 0, .int .u8 0].toArray 31)
  have b01 := blk_alloc b0 (.cells [.int .u8 0, .int .u8 0, .int .u8 0, .int .u8 0, .int .u8 0, .int .u8 0, .int .u8 0, .int .u8 0, .int .u8 0, .int .u8 0, .int .u8 0, .int .u8 0, .int .u8 0, .int .u8 0, .int .u8 0, .int .u8 0, .int .u8 0, .int .u8 0, .int .u8 0, .int .u8 0, .int .u8 0, .int .u8 0, .int .u8 0, .int .u8 0, .int .u8 0, .int .u8 0, .int .u8 0, .int .u8 0, .int .u8 0, .int .u8 0, .int .u8 0, .int .u8 0].toArray 31)
  rw [hW1] at b1 hB1 b01
  have hle := hB0.size
  have hX1 := hB0.trans (hB1.mono hle)
  have HL : Hid (∀ W, Below W1.heap.size W1 W → (Instr.loadAt 36 (.pointer (some ⟨w.heap.size, 0, none⟩))).run Tryz.prog W = .ok (V6.VV f g vh vb) W) := fun W hW => V6.vb_load (blk_on b01 hW)
  have HC : Hid (∀ W, Below W1.heap.size W1 W → W.cell? ⟨w.heap.size, 40, none⟩ = some (.int .u8 f.proto) ∧ W.cell? ⟨w.heap.size, 41, none⟩ = some vb) := fun W hW => ⟨vb40 (blk_on b01 hW), V6.vb41 (blk_on b01 hW)⟩
  have HLA : Hid (∀ W, Below W1.heap.size W1 W → (Instr.loadAt 29 (.pointer (some ⟨w.heap.size, 3, none⟩))).run Tryz.prog W = .ok (.agg (u8L A).toArray) W) := fun W hW => vl_src (blk_on b01 hW) h.ad h.lA
  have HLB : Hid (∀ W, Below W1.heap.size W1 W → (Instr.loadAt 29 (.pointer (some ⟨w.heap.size, 19, none⟩))).run Tryz.prog W = .ok (.agg (u8L B).toArray) W) := fun W hW => vl_dst (blk_on b01 hW) h.ad h.lA h.lB
  have HCK : Hid (∀ W, Below w.heap.size w W → Calls Tryz.prog 69 #[V6.VV f g vh vb] W fun e w' => e = .returned (.int .i64 (V6.ckE f hs g body.length)) ∧ Below W.heap.size W w') := fun W hW => by
    have h := h.on hW
    exact V6.RCheck_any g h.d6
  have HFR : Hid (∀ W, Calls Tryz.prog 120 #[V6.VV f g vh vb] W fun e w' => e = .returned (.bool (g.fr && (g.more || decide (0 < g.off)))) ∧ Below W.heap.size W w') := fun W => Rfragment6_calls f g vh vb W
  have HP : Hid (∀ W, Below w.heap.size w W → Calls Tryz.prog 121 #[.agg (u8L A).toArray, .agg (u8L B).toArray, vb] W (Icm.ParI (Icm.ph6I A B) body W)) := fun W hW => Icm.RParse6_any A B h.lA h.lB h.fA h.fB vb body W (h.on hW).d6.bd.row
  have HST : Hid (∀ W, Below W1.heap.size W1 W → ∀ V : List Int, V.length = 32 → ∃ w', (Instr.storeAt 31 (.pointer (some ⟨W0.heap.size, 0, none⟩)) (.agg (u8L V).toArray)).run Tryz.prog W = .ok () w' ∧ w'.heap[W0.heap.size]? = some (.cells (u8L V).toArray 31) ∧ Below w.heap.size w w') := fun W hW V hV => by
    obtain ⟨w', k1, k2, k3⟩ := box_store Tryz.sizeOf31 (blk_on b1 hW) (by rfl) (u8L V) (by simp [u8L, hV]) (by intro v hv; obtain ⟨z, _, rfl⟩ := List.mem_map.1 hv; rfl)
    exact ⟨w', k1, k2, (hX1.trans (hW.mono hX1.size)).trans (k3.below (by omega))⟩
  have HX1 : Hid (Below w.heap.size w W1) := hX1
  obtain ⟨avb, cvb, rfl, _⟩ := h.d6.bd.row.val
  obtain ⟨pr, hpr⟩ : ∃ pr, f.proto = pr := ⟨_, rfl⟩
  clear b0 hB0 b1 hB1 b01 hle hX1 h
  obtain ⟨vv, hvv⟩ : ∃ vv, V6.VV f g vh (.slice avb body.length cvb) = vv := ⟨_, rfl⟩
  rw [hpr] at HC ⊢
  rw [hvv] at HL HCK HFR ⊢
  have hW0' : w.alloc (V6.BV f g vh (.slice avb body.length cvb)) = W0 := hW0
  generalize hck : V6.ckE f hs g body.length = ck at *
  generalize hfg : (g.fr && (g.more || decide (0 < g.off))) = fg at *
  have hy0 : Below W1.heap.size W1 W1 := Below.refl _ _
  generalize hmm : mS A B body = m at *
  have HM : Hid _ := hmm
  clear hmm hck hpr
  subst hvv
  unfold V6.VV V6.BV at *
  generalize hvc : (V6.vC f g vh (.slice avb body.length cvb)).toArray = vc at *
  clear hvc
  go_enter Tryz.func46, Tryz.ntmps46
  go_wp2_with (((with_reducible show wpList _ _ _ ({ dst := _, op := Op.load 36 (Operand.tmp 1), type := _, pos := _, after := _, guard := _ } :: _) _ _); refine arm_load rfl (.tmp 1) 36 rfl rfl (HL.out _ hy0) ?_))
  refine Calls.mono (HCK.out _ HX1.out) ?_
  rintro _ w2 ⟨rfl, hb2⟩
  have hy2 := hy0.trans (hb2.mono hy0.size)
  clear hb2 HCK hy0
  by_cases hk : ck = 0
  rotate_left
  · have q0 : (ck != 0) = true := by simpa using hk
    obtain ⟨wz, stz, bz, xz⟩ := HST.out w2 hy2 z32 rfl
    have HS : Hid _ := stz
    have BZ : Hid _ := bz
    have XZ : Hid _ := xz
    have HF : Hid (telS ck g pr A B body = false) := by
      have : telS ck g pr A B body = false := by simp [telS, hk]
      exact this
    clear stz bz xz hk HL HC HLA HLB HP HFR
    go_wp2_with first
      | ((with_reducible show wpList _ _ _ ({ dst := _, op := Op.store 31 (Operand.tmp 2) (Operand.tmp 15), type := _, pos := _, after := _, guard := _ } :: _) _ _); refine arm_store rfl (.tmp 2) (.tmp 15) 31 rfl rfl rfl HS.out ?_)
    exact bodyPost_ret (res3t rfl rfl (agg_loadVar Tryz.isAgg31 Tryz.sizeOf31 rfl (CellsAt.of_blk BZ.out))) rfl (.no HF.out rfl rfl XZ.out)
  subst hk
  go_wp2_with (((with_reducible show wpList _ _ _ ({ dst := _, op := Op.load 36 (Operand.tmp 1), type := _, pos := _, after := _, guard := _ } :: _) _ _); refine arm_load rfl (.tmp 1) 36 rfl rfl (HL.out _ hy2) ?_))
  refine Calls.mono (HFR.out _) ?_
  rintro _ w3 ⟨rfl, hb3⟩
  have hy3 := hy2.trans (hb3.mono hy2.size)
  clear hb3 hy2 HFR
  obtain ⟨k40, k41⟩ := HC.out w3 hy3
  cases fg with
  | true =>
    obtain ⟨wz, stz, bz, xz⟩ := HST.out w3 hy3 z32 rfl
    have HS : Hid _ := stz
    have BZ : Hid _ := bz
    have XZ : Hid _ := xz
    have HF : Hid (telS 0 g pr A B body = false) := by
      have : telS 0 g pr A B body = false := by simp [telS, hfg]
      exact this
    clear stz bz xz hfg HL HC HLA HLB HP
    go_wp2_with first
      | ((with_reducible show wpList _ _ _ ({ dst := _, op := Op.store 31 (Operand.tmp 2) (Operand.tmp 24), type := _, pos := _, after := _, guard := _ } :: _) _ _); refine arm_store rfl (.tmp 2) (.tmp 24) 31 rfl rfl rfl HS.out ?_)
    exact bodyPost_ret (res3t rfl rfl (agg_loadVar Tryz.isAgg31 Tryz.sizeOf31 rfl (CellsAt.of_blk BZ.out))) rfl (.no HF.out rfl rfl XZ.out)
  | false => ?_
  by_cases h58 : pr = 58
  rotate_left
  · have q58 : (pr != 58) = true := by simpa using h58
    obtain ⟨wz, stz, bz, xz⟩ := HST.out w3 hy3 z32 rfl
    have HS : Hid _ := stz
    have BZ : Hid _ := bz
    have XZ : Hid _ := xz
    have HF : Hid (telS 0 g pr A B body = false) := by
      have : telS 0 g pr A B body = false := by simp [telS, h58]
      exact this
    clear stz bz xz h58 hfg HL HC HLA HLB HP
    go_wp2_with first
      | ((with_reducible show wpList _ _ _ ({ dst := _, op := Op.store 31 (Operand.tmp 2) (Operand.tmp 24), type := _, pos := _, after := _, guard := _ } :: _) _ _); refine arm_store rfl (.tmp 2) (.tmp 24) 31 rfl rfl rfl HS.out ?_)
    exact bodyPost_ret (res3t rfl rfl (agg_loadVar Tryz.isAgg31 Tryz.sizeOf31 rfl (CellsAt.of_blk BZ.out))) rfl (.no HF.out rfl rfl XZ.out)
  have q58 : (pr != 58) = false := by simpa using h58
  go_wp2_with first
    | ((with_reducible show wpList _ _ _ ({ dst := _, op := Op.load 29 (Operand.tmp 26), type := _, pos := _, after := _, guard := _ } :: _) _ _); refine arm_load rfl (.tmp 26) 29 rfl rfl (HLA.out _ hy3) ?_)
    | ((with_reducible show wpList _ _ _ ({ dst := _, op := Op.load 29 (Operand.tmp 28), type := _, pos := _, after := _, guard := _ } :: _) _ _); refine arm_load rfl (.tmp 28) 29 rfl rfl (HLB.out _ hy3) ?_)
  refine Calls.mono (HP.out _ (HX1.out.trans (hy3.mono HX1.out.size))) ?_
  rintro _ w4 ⟨cm, rfl, hm, hb4⟩
  have hy4 := hy3.trans (hb4.mono hy3.size)
  have hmS : mS A B body = m := HM.out
  unfold mS at hmS
  rw [hmS] at hm
  obtain ⟨w5, st5, b5, hb5⟩ := box_new Tryz.sizeOf46 w4 [.int .u8 0, .int .u8 0, .int .u32 0, .slice none 0 0] rfl cm hm.1.len hm.1.one
  have hy5 := hy4.trans (hb5.mono hy4.size)
  have HS5 : Hid _ := st5
  have hlen4 : cm.length = 4 := hm.1.len
  have HLM : Hid (∀ W, Below w5.heap.size w5 W → (Instr.loadAt 46 (.pointer (some ⟨w4.heap.size, 0, none⟩))).run Tryz.prog W = .ok (.agg cm.toArray) W) := fun W hW => agg_load Tryz.isAgg46 Tryz.sizeOf46 hlen4 (CellsAt.of_blk (blk_on b5 hW))
  have hmn := hm.1.on hb5
  obtain ⟨vm, hvm, hnew⟩ := hm.2
  have HMN : Hid _ := hmn
  have hmb : BytesAt w5.heap.size w5 vm m.body := by
    obtain ⟨vm', h1, h2⟩ := hmn.val
    rw [hvm] at h1
    simp only [List.cons.injEq, and_true, true_and] at h1
    rw [h1]
    exact h2
  have hrow : RowC w5 vm m.body := hnew.rowC hmb
  have HROW : Hid _ := hrow
  have HCM : Hid (∀ W, Below w5.heap.size w5 W → W.cell? ⟨w4.heap.size, 0, none⟩ = some (.int .u8 m.ty) ∧ W.cell? ⟨w4.heap.size, 3, none⟩ = some vm) := fun W hW => ⟨blk_cell (blk_on b5 hW) (by rw [hvm]; rfl), blk_cell (blk_on b5 hW) (by rw [hvm]; rfl)⟩
  have hz5 : Below w5.heap.size w5 w5 := Below.refl _ _
  obtain ⟨km0, km3⟩ := HCM.out w5 hz5
  obtain ⟨avm, cvm, rfl, _⟩ := hrow.val
  have hft := hmn.ft
  clear st5 b5 hb5 hb4 hm hvm hnew hmn hlen4 hmb hrow k40 k41 HP hy3 hmS
  generalize hpe : Icm.pE (Icm.ph6I A B) body = pe at *
  by_cases hp0 : pe = 0
  rotate_left
  · have q0 : (pe != 0) = true := by simpa using hp0
    obtain ⟨wz, stz, bz, xz⟩ := HST.out w5 hy5 z32 rfl
    have HS : Hid _ := stz
    have BZ : Hid _ := bz
    have XZ : Hid _ := xz
    have HF : Hid (telS 0 g pr A B body = false) := by
      have : telS 0 g pr A B body = false := by simp [telS, hpe, hp0]
      exact this
    clear stz bz xz hp0 hpe HMN HROW HCM HLM
    go_wp2_with first
      | ((with_reducible show wpList _ _ _ ({ dst := _, op := Op.store 46 (Operand.tmp 6) (Operand.tmp 33), type := _, pos := _, after := _, guard := _ } :: _) _ _); refine arm_store rfl (.tmp 6) (.tmp 33) 46 rfl rfl rfl HS5.out ?_)
      | ((with_reducible show wpList _ _ _ ({ dst := _, op := Op.store 31 (Operand.tmp 2) (Operand.tmp 47), type := _, pos := _, after := _, guard := _ } :: _) _ _); refine arm_store rfl (.tmp 2) (.tmp 47) 31 rfl rfl rfl HS.out ?_)
    exact bodyPost_ret (res3t rfl rfl (agg_loadVar Tryz.isAgg31 Tryz.sizeOf31 rfl (CellsAt.of_blk BZ.out))) rfl (.no HF.out rfl rfl XZ.out)
  subst hp0
  have hers : errS (mS A B body).ty = errS m.ty := by rw [HM.out]
  have her := errS_iff m.ty
  generalize hty : m.ty = ty at *
  by_cases hlo : ty < 1
  · have hers : errS (mS A B body).ty = false := by
      rw [hers]
      cases h : errS ty with
      | false => rfl
      | true => have := her.1 h; omega
    have qlo : decide (ty < 1) = true := decide_eq_true hlo
    obtain ⟨wz, stz, bz, xz⟩ := HST.out w5 hy5 z32 rfl
    have HS : Hid _ := stz
    have BZ : Hid _ := bz
    have XZ : Hid _ := xz
    have HF : Hid (telS 0 g pr A B body = false) := by
      have : telS 0 g pr A B body = false := by simp [telS, hers]
      exact this
    clear stz bz xz hers her hlo HMN HROW HCM HLM
    go_wp2_with first
      | ((with_reducible show wpList _ _ _ ({ dst := _, op := Op.store 46 (Operand.tmp 6) (Operand.tmp 33), type := _, pos := _, after := _, guard := _ } :: _) _ _); refine arm_store rfl (.tmp 6) (.tmp 33) 46 rfl rfl rfl HS5.out ?_)
      | ((with_reducible show wpList _ _ _ ({ dst := _, op := Op.store 31 (Operand.tmp 2) (Operand.tmp 47), type := _, pos := _, after := _, guard := _ } :: _) _ _); refine arm_store rfl (.tmp 2) (.tmp 47) 31 rfl rfl rfl HS.out ?_)
    exact bodyPost_ret (res3t rfl rfl (agg_loadVar Tryz.isAgg31 Tryz.sizeOf31 rfl (CellsAt.of_blk BZ.out))) rfl (.no HF.out rfl rfl XZ.out)
  by_cases hhi : 4 < ty
  · have hers : errS (mS A B body).ty = false := by
      rw [hers]
      cases h : errS ty with
      | false => rfl
      | true => have := her.1 h; omega
    have qlo : decide (ty < 1) = false := decide_eq_false hlo
    have qhi : decide (4 < ty) = true := decide_eq_true hhi
    obtain ⟨wz, stz, bz, xz⟩ := HST.out w5 hy5 z32 rfl
    have HS : Hid _ := stz
    have BZ : Hid _ := bz
    have XZ : Hid _ := xz
    have HF : Hid (telS 0 g pr A B body = false) := by
      have : telS 0 g pr A B body = false := by simp [telS, hers]
      exact this
    clear stz bz xz hers her hlo hhi HMN HROW HCM HLM
    go_wp2_with first
      | ((with_reducible show wpList _ _ _ ({ dst := _, op := Op.store 46 (Operand.tmp 6) (Operand.tmp 33), type := _, pos := _, after := _, guard := _ } :: _) _ _); refine arm_store rfl (.tmp 6) (.tmp 33) 46 rfl rfl rfl HS5.out ?_)
      | ((with_reducible show wpList _ _ _ ({ dst := _, op := Op.store 31 (Operand.tmp 2) (Operand.tmp 47), type := _, pos := _, after := _, guard := _ } :: _) _ _); refine arm_store rfl (.tmp 2) (.tmp 47) 31 rfl rfl rfl HS.out ?_)
    exact bodyPost_ret (res3t rfl rfl (agg_loadVar Tryz.isAgg31 Tryz.sizeOf31 rfl (CellsAt.of_blk BZ.out))) rfl (.no HF.out rfl rfl XZ.out)
  have hers : errS (mS A B body).ty = true := hers.trans (her.2 (by omega))
  have qlo : decide (ty < 1) = false := decide_eq_false hlo
  have qhi : decide (4 < ty) = false := decide_eq_false hhi
  clear hlo hhi her hft
  have HMX := HM.out
  generalize hmb : m.body = mb at *
  have hMB : (mS A B body).body = mb := by rw [HMX]; exact hmb
  have HMB : Hid _ := hMB
  have hrw := HROW.out.on hz5
  have HPT : Hid (Calls Tryz.prog 112 #[.slice avm mb.length cvm] w5 fun e w' => V6.AnsP false mb w5.heap.size e w' ∧ Below w5.heap.size w5 w') := V6.RPart_any (BS.of_row hrw)
  have hpe0 := hpe
  have hers0 : Hid (errS (mS A B body).ty = true) := hers
  clear HROW hrw hMB HMX hmb hers HMN HCM HLM
  go_wp2_with first
    | ((with_reducible show wpList _ _ _ ({ dst := _, op := Op.store 46 (Operand.tmp 6) (Operand.tmp 33), type := _, pos := _, after := _, guard := _ } :: _) _ _); refine arm_store rfl (.tmp 6) (.tmp 33) 46 rfl rfl rfl HS5.out ?_)
  refine Calls.mono HPT.out ?_
  rintro _ w7 ⟨⟨at', er, hbad, rfl⟩ | ⟨hs7, g7, p7, bo, vh7, vb7, hA, hok, rfl, hd7⟩, hb7⟩
  · obtain ⟨q1, q2⟩ := V6.par_bad hbad
    have hy7 := hy5.trans (hb7.mono hy5.size)
    obtain ⟨w8, st8, hb8⟩ := vz_zero w7
    generalize V6.zeroV.toArray = zc at *
    have hy8 := hy7.trans (hb8.mono hy7.size)
    have S8 : Hid _ := st8
    have hpk : parOk (mS A B body).body = false := by rw [HMB.out]; unfold parOk; rw [hbad]
    clear st8 hb8 hb7 hy7 HPT hbad
    obtain ⟨wz, stz, bz, xz⟩ := HST.out w8 hy8 z32 rfl
    have HS : Hid _ := stz
    have BZ : Hid _ := bz
    have XZ : Hid _ := xz
    have HF : Hid (telS 0 g pr A B body = false) := by
      have : telS 0 g pr A B body = false := by simp [telS, hpk]
      exact this
    clear stz bz xz hpk
    go_wp2_with first
      | ((with_reducible show wpList _ _ _ ({ dst := _, op := Op.store 36 (Operand.tmp 8) (Operand.tmp 52), type := _, pos := _, after := _, guard := _ } :: _) _ _); refine arm_store rfl (.tmp 8) (.tmp 52) 36 rfl rfl rfl S8.out ?_)
      | ((with_reducible show wpList _ _ _ ({ dst := _, op := Op.store 31 (Operand.tmp 2) (Operand.tmp 57), type := _, pos := _, after := _, guard := _ } :: _) _ _); refine arm_store rfl (.tmp 2) (.tmp 57) 31 rfl rfl rfl HS.out ?_)
    exact bodyPost_ret (res3t rfl rfl (agg_loadVar Tryz.isAgg31 Tryz.sizeOf31 rfl (CellsAt.of_blk BZ.out))) rfl (.no HF.out rfl rfl XZ.out)
  · have hy7 := hy5.trans (hb7.mono hy5.size)
    have hpk : parOk (mS A B body).body = true := by rw [HMB.out]; unfold parOk; rw [hok]
    obtain ⟨w8, st8, b8, hb8⟩ := vz_new w7 (V6.finF (V6.clsN mb) (V6.labN mb) (gz mb 7) p7 ((mb.drop 8).take 32) hA) g7 hd7.hd.one hd7.bd.one
    have hy8 := hy7.trans (hb8.mono hy7.size)
    have S8 : Hid _ := st8
    have hl1 : (((mb.drop 8).take 32).take 16).length = 16 := by rw [List.length_take, hA]; rfl
    have hl2 : (((mb.drop 8).take 32).drop 16).length = 16 := by rw [List.length_drop, hA]
    have had : (V6.finF (V6.clsN mb) (V6.labN mb) (gz mb 7) p7 ((mb.drop 8).take 32) hA).ad = u8L (((mb.drop 8).take 32).take 16) ++ u8L (((mb.drop 8).take 32).drop 16) := by
      show u8L ((mb.drop 8).take 32) = _
      unfold u8L
      rw [← List.map_append, List.take_append_drop]
    have LA8 : Hid _ := vl_src b8 had hl1
    have LB8 : Hid _ := vl_dst b8 had hl1 hl2
    have HBU : Hid (∀ W, (Instr.build 31 #[(0, .agg (u8L (((mb.drop 8).take 32).take 16)).toArray), (1, .agg (u8L (((mb.drop 8).take 32).drop 16)).toArray)]).run Tryz.prog W = .ok (.agg (u8L ((mb.drop 8).take 32)).toArray) W) := fun W => by
      have := build_ends _ _ hl1 hl2 W
      rw [List.take_append_drop] at this
      exact this
    have HTB : Hid (telS 0 g pr A B body = true) := by
      have : telS 0 g pr A B body = true := by simp [telS, h58, hpe0, hers0.out, hpk, hfg]
      exact this
    obtain ⟨wz, stz, bz, xz⟩ := HST.out w8 hy8 ((mb.drop 8).take 32) hA
    have HS : Hid _ := stz
    have BZ : Hid _ := bz
    have XZ : Hid _ := xz
    clear st8 b8 hb8 hb7 hy7 hy8 HPT stz bz xz had hok hpk
    obtain ⟨xh, nh, mh, ehh⟩ := hd7.hd.slc
    obtain ⟨xb, nb, mb', ebb⟩ := hd7.bd.slc
    clear hd7
    generalize V6.finF (V6.clsN mb) (V6.labN mb) (gz mb 7) p7 ((mb.drop 8).take 32) hA = FF at *
    unfold V6.VV at *
    generalize (V6.vC FF g7 vh7 vb7).toArray = vc7 at *
    clear ehh ebb
    go_wp2_with first
      | ((with_reducible show wpList _ _ _ ({ dst := _, op := Op.store 36 (Operand.tmp 8) (Operand.tmp 52), type := _, pos := _, after := _, guard := _ } :: _) _ _); refine arm_store rfl (.tmp 8) (.tmp 52) 36 rfl rfl rfl S8.out ?_)
      | ((with_reducible show wpList _ _ _ ({ dst := _, op := Op.load 29 (Operand.tmp 58), type := _, pos := _, after := _, guard := _ } :: _) _ _); refine arm_load rfl (.tmp 58) 29 rfl rfl LA8.out ?_)
      | ((with_reducible show wpList _ _ _ ({ dst := _, op := Op.load 29 (Operand.tmp 60), type := _, pos := _, after := _, guard := _ } :: _) _ _); refine arm_load rfl (.tmp 60) 29 rfl rfl LB8.out ?_)
      | ((with_reducible show wpList _ _ _ ({ dst := _, op := Op.build 31 _, type := _, pos := _, after := _, guard := _ } :: _) _ _); refine arm_build rfl 31 [(0, .tmp 59), (1, .tmp 61)] rfl rfl (HBU.out _) ?_)
      | ((with_reducible show wpList _ _ _ ({ dst := _, op := Op.store 31 (Operand.tmp 2) (Operand.tmp 62), type := _, pos := _, after := _, guard := _ } :: _) _ _); refine arm_store rfl (.tmp 2) (.tmp 62) 31 rfl rfl rfl HS.out ?_)
    refine bodyPost_ret (res3t rfl rfl (agg_loadVar Tryz.isAgg31 Tryz.sizeOf31 (by rw [u8L_len, hA]) (CellsAt.of_blk BZ.out))) rfl ?_
    exact .yes HTB.out (by rw [HMB.out]; rfl) XZ.out
end Go.Proofs.YtpgnnplpcalbbaaGreat
