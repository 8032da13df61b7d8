/-
  What catches; answer of rows, of numbers and of bools, of package splitsix.
-/
import Derived.Test.YtcllcinekohklaaXb1
import Derived.Defers
namespace Go.Proofs.Ytcllcinekohklaa
open Go Go.RowKit
set_option linter.unusedVariables false
set_option linter.unusedSimpArgs false

theorem ta_yes (v : Value) (w : World) : (Instr.typeAssert (.iface 68 v) 20 68 true).run Try.prog w = .ok (.tuple #[v, .bool true]) w := by
  simp [Instr.typeAssert, Try.underlying68, go_sem]
theorem ta_no (w : World) : (Instr.typeAssert .nilIface 20 68 true).run Try.prog w = .ok (.tuple #[.int .i64 0, .bool false]) w := by
  simp [Instr.typeAssert, Try.underlying68, go_sem]
def eBox (x : Int) : Obj := .cells [.int .i64 x].toArray 30
theorem loadErr {W : World} {b : Nat} {x : Int} (h : W.heap[b]? = some (eBox x)) : (loadVar 30 ⟨b, 0, none⟩).run Try.prog W = .ok (.int .i64 x) W := by
  have c := blk_cell h (j := 0) rfl
  simp [go_sem, c]
theorem resTC {P : Program} {fn : Func} {a b : Tmp} {t : TypeId} (h : fn.results = #[.tmp a, .cell b t]) {tmps : Array Value} {B : Addr} {x y : Value} (ha : tmps.getD a undef = x) (hb : tmps.getD b undef = .pointer (some B)) {w : World} (hl : (loadVar t B).run P w = .ok y w) :
    (results fn tmps).run P w = .ok (.tuple #[x, y]) w := by
  rw [Array.getD_eq_getD_getElem?] at ha hb
  simp [results, h, ha, hb, asAddr, hl]
theorem resCC {P : Program} {fn : Func} {a b : Tmp} {t u : TypeId} (h : fn.results = #[.cell a t, .cell b u]) {tmps : Array Value} {A B : Addr} (ha : tmps.getD a undef = .pointer (some A)) (hb : tmps.getD b undef = .pointer (some B)) {x y : Value} {w : World} (hx : (loadVar t A).run P w = .ok x w) (hl : (loadVar u B).run P w = .ok y w) :
    (results fn tmps).run P w = .ok (.tuple #[x, y]) w := by
  rw [Array.getD_eq_getD_getElem?] at ha hb
  simp [results, h, ha, hb, asAddr, hx, hl]
theorem resCT {P : Program} {fn : Func} {a b : Tmp} {t : TypeId} (h : fn.results = #[.cell a t, .tmp b]) {tmps : Array Value} {A : Addr} {x y : Value} (ha : tmps.getD a undef = .pointer (some A)) (hb : tmps.getD b undef = y) {w : World} (hl : (loadVar t A).run P w = .ok x w) :
    (results fn tmps).run P w = .ok (.tuple #[x, y]) w := by
  rw [Array.getD_eq_getD_getElem?] at ha hb
  simp [results, h, ha, hb, asAddr, hl]
theorem st_err {W : World} {b : Nat} {x y : Int} (h : W.heap[b]? = some (eBox x)) : (Instr.storeAt 30 (.pointer (some ⟨b, 0, none⟩)) (.int .i64 y)).run Try.prog W = .ok () (W.setCell ⟨b, 0, none⟩ (.int .i64 y)) := by
  have h1 : W.cell? ⟨b, 0, none⟩ = some (.int .i64 x) := blk_cell h rfl
  have h2 := blk_open h 0
  simp [Instr.storeAt, go_sem, h1, h2]

set_option maxHeartbeats 2000000 in
set_option maxRecDepth 100000 in
theorem catch_idleS (p : Addr) (w : World) :
    CallsD Try.prog 43 #[.pointer (some p)] .returning w fun e u' w' => e = .returned (.tuple #[]) ∧ u' = .returning ∧ w' = w := by
  have ht := ta_no w
  refine callsD_of_wpS Try.func43 rfl fun c₀ cs hu => ?_
  apply wpS_seq
  refine wpS_region_rec (v := .nilIface) (cs' := c₀ :: cs) rfl rfl (by simp [recoverD, hu]) ?_
  simp only [Try.ntmps43, List.size_toArray, List.length_cons, List.length_nil, Nat.reduceAdd, Nat.reduceSub, Array.replicate_succ, Array.replicate_zero, List.push_toArray, List.append_toArray, List.nil_append, List.cons_append, Act.put, List.setIfInBounds_toArray, List.set_cons_zero, List.set_cons_succ]
  go_wp2
  refine wpS_of_wp ?_
  go_wp2
  cases c₀
  simp_all [bodyPostS, results, Try.results43]
set_option maxHeartbeats 2000000 in
set_option maxRecDepth 100000 in
theorem catch_faultS (Q : Nat) (x e : Int) (w : World) (h : w.heap[Q]? = some (eBox x)) :
    CallsD Try.prog 43 #[.pointer (some ⟨Q, 0, none⟩)] (.panicking [guP e]) w fun e' u' w' => e' = .returned (.tuple #[]) ∧ u' = .panicking [{ v := .iface 68 (.int .i64 e), recovered := true }] ∧ w'.heap[Q]? = some (eBox e) ∧ Only Q w w' := by
  have ht := ta_yes (.int .i64 e) w
  have HS : Hid _ := st_err (y := e) h
  have HB : Hid ((w.setCell ⟨Q, 0, none⟩ (.int .i64 e)).heap[Q]? = some (eBox e)) := blk_set h 0 (.int .i64 e)
  have HO : Hid (Only Q w (w.setCell ⟨Q, 0, none⟩ (.int .i64 e))) := (Only.refl Q w).set 0 _
  clear h
  unfold guP
  refine callsD_of_wpS Try.func43 rfl fun c₀ cs hu => ?_
  apply wpS_seq
  refine wpS_region_rec (v := .iface 68 (.int .i64 e)) (cs' := { c₀ with mode := .panicking [{ v := .iface 68 (.int .i64 e), recovered := true }] } :: cs) rfl rfl (by simp [recoverD, hu]) ?_
  simp only [Try.ntmps43, List.size_toArray, List.length_cons, List.length_nil, Nat.reduceAdd, Nat.reduceSub, Array.replicate_succ, Array.replicate_zero, List.push_toArray, List.append_toArray, List.nil_append, List.cons_append, Act.put, List.setIfInBounds_toArray, List.set_cons_zero, List.set_cons_succ]
  go_wp2
  refine wpS_of_wp ?_
  go_wp2_with ((with_reducible show wpList _ _ _ _ _ _); refine armS (.tmp 0) (.tmp 11) 30 rfl rfl rfl rfl HS.out ?_)
  exact ⟨rfl, _, rfl, _, results_none rfl _ _ _, rfl, rfl, HB.out, HO.out⟩

set_option maxHeartbeats 2000000 in
set_option maxRecDepth 100000 in
theorem catch_idleC (p : Addr) (w : World) :
    CallsD Try.prog 48 #[.pointer (some p)] .returning w fun e u' w' => e = .returned (.tuple #[]) ∧ u' = .returning ∧ w' = w := by
  have ht := ta_no w
  refine callsD_of_wpS Try.func48 rfl fun c₀ cs hu => ?_
  apply wpS_seq
  refine wpS_region_rec (v := .nilIface) (cs' := c₀ :: cs) rfl rfl (by simp [recoverD, hu]) ?_
  simp only [Try.ntmps48, List.size_toArray, List.length_cons, List.length_nil, Nat.reduceAdd, Nat.reduceSub, Array.replicate_succ, Array.replicate_zero, List.push_toArray, List.append_toArray, List.nil_append, List.cons_append, Act.put, List.setIfInBounds_toArray, List.set_cons_zero, List.set_cons_succ]
  go_wp2
  refine wpS_of_wp ?_
  go_wp2
  cases c₀
  simp_all [bodyPostS, results, Try.results48]
set_option maxHeartbeats 2000000 in
set_option maxRecDepth 100000 in
theorem catch_faultC (Q : Nat) (x e : Int) (w : World) (h : w.heap[Q]? = some (eBox x)) :
    CallsD Try.prog 48 #[.pointer (some ⟨Q, 0, none⟩)] (.panicking [guP e]) w fun e' u' w' => e' = .returned (.tuple #[]) ∧ u' = .panicking [{ v := .iface 68 (.int .i64 e), recovered := true }] ∧ w'.heap[Q]? = some (eBox e) ∧ Only Q w w' := by
  have ht := ta_yes (.int .i64 e) w
  have HS : Hid _ := st_err (y := e) h
  have HB : Hid ((w.setCell ⟨Q, 0, none⟩ (.int .i64 e)).heap[Q]? = some (eBox e)) := blk_set h 0 (.int .i64 e)
  have HO : Hid (Only Q w (w.setCell ⟨Q, 0, none⟩ (.int .i64 e))) := (Only.refl Q w).set 0 _
  clear h
  unfold guP
  refine callsD_of_wpS Try.func48 rfl fun c₀ cs hu => ?_
  apply wpS_seq
  refine wpS_region_rec (v := .iface 68 (.int .i64 e)) (cs' := { c₀ with mode := .panicking [{ v := .iface 68 (.int .i64 e), recovered := true }] } :: cs) rfl rfl (by simp [recoverD, hu]) ?_
  simp only [Try.ntmps48, List.size_toArray, List.length_cons, List.length_nil, Nat.reduceAdd, Nat.reduceSub, Array.replicate_succ, Array.replicate_zero, List.push_toArray, List.append_toArray, List.nil_append, List.cons_append, Act.put, List.setIfInBounds_toArray, List.set_cons_zero, List.set_cons_succ]
  go_wp2
  refine wpS_of_wp ?_
  go_wp2_with ((with_reducible show wpList _ _ _ _ _ _); refine armS (.tmp 0) (.tmp 11) 30 rfl rfl rfl rfl HS.out ?_)
  exact ⟨rfl, _, rfl, _, results_none rfl _ _ _, rfl, rfl, HB.out, HO.out⟩

set_option maxHeartbeats 2000000 in
set_option maxRecDepth 100000 in
theorem catch_idleF (p : Addr) (w : World) :
    CallsD Try.prog 49 #[.pointer (some p)] .returning w fun e u' w' => e = .returned (.tuple #[]) ∧ u' = .returning ∧ w' = w := by
  have ht := ta_no w
  refine callsD_of_wpS Try.func49 rfl fun c₀ cs hu => ?_
  apply wpS_seq
  refine wpS_region_rec (v := .nilIface) (cs' := c₀ :: cs) rfl rfl (by simp [recoverD, hu]) ?_
  simp only [Try.ntmps49, List.size_toArray, List.length_cons, List.length_nil, Nat.reduceAdd, Nat.reduceSub, Array.replicate_succ, Array.replicate_zero, List.push_toArray, List.append_toArray, List.nil_append, List.cons_append, Act.put, List.setIfInBounds_toArray, List.set_cons_zero, List.set_cons_succ]
  go_wp2
  refine wpS_of_wp ?_
  go_wp2
  cases c₀
  simp_all [bodyPostS, results, Try.results49]
set_option maxHeartbeats 2000000 in
set_option maxRecDepth 100000 in
theorem catch_faultF (Q : Nat) (x e : Int) (w : World) (h : w.heap[Q]? = some (eBox x)) :
    CallsD Try.prog 49 #[.pointer (some ⟨Q, 0, none⟩)] (.panicking [guP e]) w fun e' u' w' => e' = .returned (.tuple #[]) ∧ u' = .panicking [{ v := .iface 68 (.int .i64 e), recovered := true }] ∧ w'.heap[Q]? = some (eBox e) ∧ Only Q w w' := by
  have ht := ta_yes (.int .i64 e) w
  have HS : Hid _ := st_err (y := e) h
  have HB : Hid ((w.setCell ⟨Q, 0, none⟩ (.int .i64 e)).heap[Q]? = some (eBox e)) := blk_set h 0 (.int .i64 e)
  have HO : Hid (Only Q w (w.setCell ⟨Q, 0, none⟩ (.int .i64 e))) := (Only.refl Q w).set 0 _
  clear h
  unfold guP
  refine callsD_of_wpS Try.func49 rfl fun c₀ cs hu => ?_
  apply wpS_seq
  refine wpS_region_rec (v := .iface 68 (.int .i64 e)) (cs' := { c₀ with mode := .panicking [{ v := .iface 68 (.int .i64 e), recovered := true }] } :: cs) rfl rfl (by simp [recoverD, hu]) ?_
  simp only [Try.ntmps49, List.size_toArray, List.length_cons, List.length_nil, Nat.reduceAdd, Nat.reduceSub, Array.replicate_succ, Array.replicate_zero, List.push_toArray, List.append_toArray, List.nil_append, List.cons_append, Act.put, List.setIfInBounds_toArray, List.set_cons_zero, List.set_cons_succ]
  go_wp2
  refine wpS_of_wp ?_
  go_wp2_with ((with_reducible show wpList _ _ _ _ _ _); refine armS (.tmp 0) (.tmp 11) 30 rfl rfl rfl rfl HS.out ?_)
  exact ⟨rfl, _, rfl, _, results_none rfl _ _ _, rfl, rfl, HB.out, HO.out⟩

set_option maxHeartbeats 2000000 in
set_option maxRecDepth 100000 in
theorem catch_idleV (p : Addr) (w : World) :
    CallsD Try.prog 51 #[.pointer (some p)] .returning w fun e u' w' => e = .returned (.tuple #[]) ∧ u' = .returning ∧ w' = w := by
  have ht := ta_no w
  refine callsD_of_wpS Try.func51 rfl fun c₀ cs hu => ?_
  apply wpS_seq
  refine wpS_region_rec (v := .nilIface) (cs' := c₀ :: cs) rfl rfl (by simp [recoverD, hu]) ?_
  simp only [Try.ntmps51, List.size_toArray, List.length_cons, List.length_nil, Nat.reduceAdd, Nat.reduceSub, Array.replicate_succ, Array.replicate_zero, List.push_toArray, List.append_toArray, List.nil_append, List.cons_append, Act.put, List.setIfInBounds_toArray, List.set_cons_zero, List.set_cons_succ]
  go_wp2
  refine wpS_of_wp ?_
  go_wp2
  cases c₀
  simp_all [bodyPostS, results, Try.results51]
set_option maxHeartbeats 2000000 in
set_option maxRecDepth 100000 in
theorem catch_faultV (Q : Nat) (x e : Int) (w : World) (h : w.heap[Q]? = some (eBox x)) :
    CallsD Try.prog 51 #[.pointer (some ⟨Q, 0, none⟩)] (.panicking [guP e]) w fun e' u' w' => e' = .returned (.tuple #[]) ∧ u' = .panicking [{ v := .iface 68 (.int .i64 e), recovered := true }] ∧ w'.heap[Q]? = some (eBox e) ∧ Only Q w w' := by
  have ht := ta_yes (.int .i64 e) w
  have HS : Hid _ := st_err (y := e) h
  have HB : Hid ((w.setCell ⟨Q, 0, none⟩ (.int .i64 e)).heap[Q]? = some (eBox e)) := blk_set h 0 (.int .i64 e)
  have HO : Hid (Only Q w (w.setCell ⟨Q, 0, none⟩ (.int .i64 e))) := (Only.refl Q w).set 0 _
  clear h
  unfold guP
  refine callsD_of_wpS Try.func51 rfl fun c₀ cs hu => ?_
  apply wpS_seq
  refine wpS_region_rec (v := .iface 68 (.int .i64 e)) (cs' := { c₀ with mode := .panicking [{ v := .iface 68 (.int .i64 e), recovered := true }] } :: cs) rfl rfl (by simp [recoverD, hu]) ?_
  simp only [Try.ntmps51, List.size_toArray, List.length_cons, List.length_nil, Nat.reduceAdd, Nat.reduceSub, Array.replicate_succ, Array.replicate_zero, List.push_toArray, List.append_toArray, List.nil_append, List.cons_append, Act.put, List.setIfInBounds_toArray, List.set_cons_zero, List.set_cons_succ]
  go_wp2
  refine wpS_of_wp ?_
  go_wp2_with ((with_reducible show wpList _ _ _ _ _ _); refine armS (.tmp 0) (.tmp 11) 30 rfl rfl rfl rfl HS.out ?_)
  exact ⟨rfl, _, rfl, _, results_none rfl _ _ _, rfl, rfl, HB.out, HO.out⟩

set_option maxHeartbeats 2000000 in
set_option maxRecDepth 100000 in
theorem ansS_no (p q r : Addr) (w : World) (er : Int) (h : ∀ W, Below w.heap.size w W → W.heap.size = w.heap.size + 1 → Calls Try.prog 23 #[.pointer (some p), .pointer (some q), .pointer (some r)] W fun e w' => e = .panicked [guP er] ∧ Below W.heap.size W w') :
    Calls Try.prog 22 #[.func (.func 23) #[] #[.pointer (some p), .pointer (some q), .pointer (some r)]] w fun e w' => e = .returned (.tuple #[.slice none 0 0, .int .i64 er]) ∧ Below w.heap.size w w' := by
  have hmf : ∀ (fn : Fn) (first cap : Array Value) (w : World), (Instr.makeFunc fn first cap).run Try.prog w = .ok (.func fn first cap) w := fun _ _ _ _ => rfl
  have hb0 := blk_new w (eBox 0)
  have hB0 : Below w.heap.size w (w.alloc (eBox 0)) := (Below.refl w.heap.size w).alloc (Nat.le_refl _) (eBox 0)
  have HC : Hid _ := h _ hB0 (by simp)
  have HB0 : Hid ((w.alloc (eBox 0)).heap[w.heap.size]? = some (eBox 0)) := hb0
  have HBB : Hid (Below w.heap.size w (w.alloc (eBox 0))) := hB0
  clear hb0 hB0 h
  unfold eBox at HC
  go_enter_defers Try.func22, Try.ntmps22
  go_wp2_with fail
  refine Calls.mono HC.out ?_
  rintro e1 w1 ⟨rfl, hb1⟩
  have hb1' : w1.heap[w.heap.size]? = some (eBox 0) := blk_on HB0.out hb1
  refine leaves_cons (f := 43) (args := #[.pointer (some ⟨w.heap.size, 0, none⟩)]) (by simp) (by simp [go_sem]) ?_
  refine (catch_faultS w.heap.size 0 er _ hb1').mono ?_
  rintro e9 u9 w9 ⟨rfl, rfl, h9, ho9⟩
  exact ⟨_, resTC rfl rfl rfl (loadErr h9), rfl, (HBB.out.trans (Below.mono hb1 HBB.out.size)).trans (ho9.below (Nat.le_refl _))⟩

set_option maxHeartbeats 2000000 in
set_option maxRecDepth 100000 in
theorem ansS_yes (p q r : Addr) (w : World) (R : Value → World → Prop) (hR : ∀ v A B, R v A → Only w.heap.size A B → R v B) (h : ∀ W, Below w.heap.size w W → W.heap.size = w.heap.size + 1 → Calls Try.prog 23 #[.pointer (some p), .pointer (some q), .pointer (some r)] W fun e w' => ∃ v, e = .returned v ∧ R v w' ∧ Below W.heap.size W w') :
    Calls Try.prog 22 #[.func (.func 23) #[] #[.pointer (some p), .pointer (some q), .pointer (some r)]] w fun e w' => ∃ v, e = .returned (.tuple #[v, .int .i64 0]) ∧ R v w' ∧ Below w.heap.size w w' := by
  have hmf : ∀ (fn : Fn) (first cap : Array Value) (w : World), (Instr.makeFunc fn first cap).run Try.prog w = .ok (.func fn first cap) w := fun _ _ _ _ => rfl
  have hb0 := blk_new w (eBox 0)
  have hB0 : Below w.heap.size w (w.alloc (eBox 0)) := (Below.refl w.heap.size w).alloc (Nat.le_refl _) (eBox 0)
  have HC : Hid _ := h _ hB0 (by simp)
  have HB0 : Hid ((w.alloc (eBox 0)).heap[w.heap.size]? = some (eBox 0)) := hb0
  have HBB : Hid (Below w.heap.size w (w.alloc (eBox 0))) := hB0
  clear hb0 hB0 h
  unfold eBox at HC
  go_enter_defers Try.func22, Try.ntmps22
  go_wp2_with fail
  refine Calls.mono HC.out ?_
  rintro e1 w1 ⟨v, rfl, hr, hb1⟩
  have hb1' : w1.heap[w.heap.size]? = some (eBox 0) := blk_on HB0.out hb1
  have HST : Hid _ := st_err (y := 0) hb1'
  have hb2 : (w1.setCell ⟨w.heap.size, 0, none⟩ (.int .i64 0)).heap[w.heap.size]? = some (eBox 0) := blk_set hb1' 0 (.int .i64 0)
  have ho : Only w.heap.size w1 (w1.setCell ⟨w.heap.size, 0, none⟩ (.int .i64 0)) := (Only.refl _ w1).set 0 _
  have HR : Hid _ := hR v _ _ hr ho
  have HBE : Hid (Below w.heap.size w (w1.setCell ⟨w.heap.size, 0, none⟩ (.int .i64 0))) := (HBB.out.trans (Below.mono hb1 HBB.out.size)).trans (ho.below (Nat.le_refl _))
  have HB2 : Hid _ := hb2
  clear hb2 hb1' ho hb1 hr HC HB0 HBB
  go_wp2_with ((with_reducible show wpList _ _ _ _ _ _); refine armS (.tmp 3) (.const (.int .i64 0)) 30 rfl rfl rfl rfl HST.out ?_)
  refine leaves_cons (f := 43) (args := #[.pointer (some ⟨w.heap.size, 0, none⟩)]) (by simp) (by simp [go_sem]) ?_
  refine (catch_idleS _ _).mono ?_
  rintro e9 u9 w9 ⟨rfl, rfl, rfl⟩
  exact ⟨_, resTC rfl rfl rfl (loadErr HB2.out), v, rfl, HR.out, HBE.out⟩

set_option maxHeartbeats 2000000 in
set_option maxRecDepth 100000 in
theorem ansC_no (p q : Addr) (w : World) (er : Int) (h : ∀ W, Below w.heap.size w W → W.heap.size = w.heap.size + 1 → Calls Try.prog 28 #[.pointer (some p), .pointer (some q)] W fun e w' => e = .panicked [guP er] ∧ Below W.heap.size W w') :
    Calls Try.prog 27 #[.func (.func 28) #[] #[.pointer (some p), .pointer (some q)]] w fun e w' => e = .returned (.tuple #[.int .i64 0, .int .i64 er]) ∧ Below w.heap.size w w' := by
  have hmf : ∀ (fn : Fn) (first cap : Array Value) (w : World), (Instr.makeFunc fn first cap).run Try.prog w = .ok (.func fn first cap) w := fun _ _ _ _ => rfl
  have hb0 := blk_new w (eBox 0)
  have hB0 : Below w.heap.size w (w.alloc (eBox 0)) := (Below.refl w.heap.size w).alloc (Nat.le_refl _) (eBox 0)
  have HC : Hid _ := h _ hB0 (by simp)
  have HB0 : Hid ((w.alloc (eBox 0)).heap[w.heap.size]? = some (eBox 0)) := hb0
  have HBB : Hid (Below w.heap.size w (w.alloc (eBox 0))) := hB0
  clear hb0 hB0 h
  unfold eBox at HC
  go_enter_defers Try.func27, Try.ntmps27
  go_wp2_with fail
  refine Calls.mono HC.out ?_
  rintro e1 w1 ⟨rfl, hb1⟩
  have hb1' : w1.heap[w.heap.size]? = some (eBox 0) := blk_on HB0.out hb1
  refine leaves_cons (f := 48) (args := #[.pointer (some ⟨w.heap.size, 0, none⟩)]) (by simp) (by simp [go_sem]) ?_
  refine (catch_faultC w.heap.size 0 er _ hb1').mono ?_
  rintro e9 u9 w9 ⟨rfl, rfl, h9, ho9⟩
  exact ⟨_, resTC rfl rfl rfl (loadErr h9), rfl, (HBB.out.trans (Below.mono hb1 HBB.out.size)).trans (ho9.below (Nat.le_refl _))⟩

set_option maxHeartbeats 2000000 in
set_option maxRecDepth 100000 in
theorem ansC_yes (p q : Addr) (w : World) (R : Value → World → Prop) (hR : ∀ v A B, R v A → Only w.heap.size A B → R v B) (h : ∀ W, Below w.heap.size w W → W.heap.size = w.heap.size + 1 → Calls Try.prog 28 #[.pointer (some p), .pointer (some q)] W fun e w' => ∃ v, e = .returned v ∧ R v w' ∧ Below W.heap.size W w') :
    Calls Try.prog 27 #[.func (.func 28) #[] #[.pointer (some p), .pointer (some q)]] w fun e w' => ∃ v, e = .returned (.tuple #[v, .int .i64 0]) ∧ R v w' ∧ Below w.heap.size w w' := by
  have hmf : ∀ (fn : Fn) (first cap : Array Value) (w : World), (Instr.makeFunc fn first cap).run Try.prog w = .ok (.func fn first cap) w := fun _ _ _ _ => rfl
  have hb0 := blk_new w (eBox 0)
  have hB0 : Below w.heap.size w (w.alloc (eBox 0)) := (Below.refl w.heap.size w).alloc (Nat.le_refl _) (eBox 0)
  have HC : Hid _ := h _ hB0 (by simp)
  have HB0 : Hid ((w.alloc (eBox 0)).heap[w.heap.size]? = some (eBox 0)) := hb0
  have HBB : Hid (Below w.heap.size w (w.alloc (eBox 0))) := hB0
  clear hb0 hB0 h
  unfold eBox at HC
  go_enter_defers Try.func27, Try.ntmps27
  go_wp2_with fail
  refine Calls.mono HC.out ?_
  rintro e1 w1 ⟨v, rfl, hr, hb1⟩
  have hb1' : w1.heap[w.heap.size]? = some (eBox 0) := blk_on HB0.out hb1
  have HST : Hid _ := st_err (y := 0) hb1'
  have hb2 : (w1.setCell ⟨w.heap.size, 0, none⟩ (.int .i64 0)).heap[w.heap.size]? = some (eBox 0) := blk_set hb1' 0 (.int .i64 0)
  have ho : Only w.heap.size w1 (w1.setCell ⟨w.heap.size, 0, none⟩ (.int .i64 0)) := (Only.refl _ w1).set 0 _
  have HR : Hid _ := hR v _ _ hr ho
  have HBE : Hid (Below w.heap.size w (w1.setCell ⟨w.heap.size, 0, none⟩ (.int .i64 0))) := (HBB.out.trans (Below.mono hb1 HBB.out.size)).trans (ho.below (Nat.le_refl _))
  have HB2 : Hid _ := hb2
  clear hb2 hb1' ho hb1 hr HC HB0 HBB
  go_wp2_with ((with_reducible show wpList _ _ _ _ _ _); refine armS (.tmp 3) (.const (.int .i64 0)) 30 rfl rfl rfl rfl HST.out ?_)
  refine leaves_cons (f := 48) (args := #[.pointer (some ⟨w.heap.size, 0, none⟩)]) (by simp) (by simp [go_sem]) ?_
  refine (catch_idleC _ _).mono ?_
  rintro e9 u9 w9 ⟨rfl, rfl, rfl⟩
  exact ⟨_, resTC rfl rfl rfl (loadErr HB2.out), v, rfl, HR.out, HBE.out⟩

set_option maxHeartbeats 2000000 in
set_option maxRecDepth 100000 in
theorem ansF_no (p q : Addr) (w : World) (er : Int) (h : ∀ W, Below w.heap.size w W → W.heap.size = w.heap.size + 1 → Calls Try.prog 30 #[.pointer (some p), .pointer (some q)] W fun e w' => e = .panicked [guP er] ∧ Below W.heap.size W w') :
    Calls Try.prog 29 #[.func (.func 30) #[] #[.pointer (some p), .pointer (some q)]] w fun e w' => e = .returned (.tuple #[.bool false, .int .i64 er]) ∧ Below w.heap.size w w' := by
  have hmf : ∀ (fn : Fn) (first cap : Array Value) (w : World), (Instr.makeFunc fn first cap).run Try.prog w = .ok (.func fn first cap) w := fun _ _ _ _ => rfl
  have hb0 := blk_new w (eBox 0)
  have hB0 : Below w.heap.size w (w.alloc (eBox 0)) := (Below.refl w.heap.size w).alloc (Nat.le_refl _) (eBox 0)
  have HC : Hid _ := h _ hB0 (by simp)
  have HB0 : Hid ((w.alloc (eBox 0)).heap[w.heap.size]? = some (eBox 0)) := hb0
  have HBB : Hid (Below w.heap.size w (w.alloc (eBox 0))) := hB0
  clear hb0 hB0 h
  unfold eBox at HC
  go_enter_defers Try.func29, Try.ntmps29
  go_wp2_with fail
  refine Calls.mono HC.out ?_
  rintro e1 w1 ⟨rfl, hb1⟩
  have hb1' : w1.heap[w.heap.size]? = some (eBox 0) := blk_on HB0.out hb1
  refine leaves_cons (f := 49) (args := #[.pointer (some ⟨w.heap.size, 0, none⟩)]) (by simp) (by simp [go_sem]) ?_
  refine (catch_faultF w.heap.size 0 er _ hb1').mono ?_
  rintro e9 u9 w9 ⟨rfl, rfl, h9, ho9⟩
  exact ⟨_, resTC rfl rfl rfl (loadErr h9), rfl, (HBB.out.trans (Below.mono hb1 HBB.out.size)).trans (ho9.below (Nat.le_refl _))⟩

set_option maxHeartbeats 2000000 in
set_option maxRecDepth 100000 in
theorem ansF_yes (p q : Addr) (w : World) (R : Value → World → Prop) (hR : ∀ v A B, R v A → Only w.heap.size A B → R v B) (h : ∀ W, Below w.heap.size w W → W.heap.size = w.heap.size + 1 → Calls Try.prog 30 #[.pointer (some p), .pointer (some q)] W fun e w' => ∃ v, e = .returned v ∧ R v w' ∧ Below W.heap.size W w') :
    Calls Try.prog 29 #[.func (.func 30) #[] #[.pointer (some p), .pointer (some q)]] w fun e w' => ∃ v, e = .returned (.tuple #[v, .int .i64 0]) ∧ R v w' ∧ Below w.heap.size w w' := by
  have hmf : ∀ (fn : Fn) (first cap : Array Value) (w : World), (Instr.makeFunc fn first cap).run Try.prog w = .ok (.func fn first cap) w := fun _ _ _ _ => rfl
  have hb0 := blk_new w (eBox 0)
  have hB0 : Below w.heap.size w (w.alloc (eBox 0)) := (Below.refl w.heap.size w).alloc (Nat.le_refl _) (eBox 0)
  have HC : Hid _ := h _ hB0 (by simp)
  have HB0 : Hid ((w.alloc (eBox 0)).heap[w.heap.size]? = some (eBox 0)) := hb0
  have HBB : Hid (Below w.heap.size w (w.alloc (eBox 0))) := hB0
  clear hb0 hB0 h
  unfold eBox at HC
  go_enter_defers Try.func29, Try.ntmps29
  go_wp2_with fail
  refine Calls.mono HC.out ?_
  rintro e1 w1 ⟨v, rfl, hr, hb1⟩
  have hb1' : w1.heap[w.heap.size]? = some (eBox 0) := blk_on HB0.out hb1
  have HST : Hid _ := st_err (y := 0) hb1'
  have hb2 : (w1.setCell ⟨w.heap.size, 0, none⟩ (.int .i64 0)).heap[w.heap.size]? = some (eBox 0) := blk_set hb1' 0 (.int .i64 0)
  have ho : Only w.heap.size w1 (w1.setCell ⟨w.heap.size, 0, none⟩ (.int .i64 0)) := (Only.refl _ w1).set 0 _
  have HR : Hid _ := hR v _ _ hr ho
  have HBE : Hid (Below w.heap.size w (w1.setCell ⟨w.heap.size, 0, none⟩ (.int .i64 0))) := (HBB.out.trans (Below.mono hb1 HBB.out.size)).trans (ho.below (Nat.le_refl _))
  have HB2 : Hid _ := hb2
  clear hb2 hb1' ho hb1 hr HC HB0 HBB
  go_wp2_with ((with_reducible show wpList _ _ _ _ _ _); refine armS (.tmp 3) (.const (.int .i64 0)) 30 rfl rfl rfl rfl HST.out ?_)
  refine leaves_cons (f := 49) (args := #[.pointer (some ⟨w.heap.size, 0, none⟩)]) (by simp) (by simp [go_sem]) ?_
  refine (catch_idleF _ _).mono ?_
  rintro e9 u9 w9 ⟨rfl, rfl, rfl⟩
  exact ⟨_, resTC rfl rfl rfl (loadErr HB2.out), v, rfl, HR.out, HBE.out⟩

end Go.Proofs.Ytcllcinekohklaa
