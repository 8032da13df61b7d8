/-
  Which of two entries goes first: cmp.Or, order.
-/
import Derived.Test.YtgndiblonhgihaaPn3
import Derived.Great.BuildSlice
namespace Go.Proofs.Ytgndiblonhgihaa
open Go Go.RowKit
set_option linter.unusedVariables false
set_option linter.unusedSimpArgs false

/-- What lies in an entry's box. -/
def eC (a : List Int) (m u : Int) : List Value := u8s a ++ [.int .i64 m, .int .i64 u]
def EntAt (W : World) (p : Nat) (a : List Int) (m u : Int) : Prop := W.heap[p]? = some (.cells (eC a m u).toArray 72)
theorem EntAt.on {W W' : World} {p : Nat} {a : List Int} {m u : Int} (h : EntAt W p a m u) (hb : W'.heap[p]? = W.heap[p]?) : EntAt W' p a m u := hb.trans h
theorem EntAt.lt {W : World} {p : Nat} {a : List Int} {m u : Int} (h : EntAt W p a m u) : p < W.heap.size := (Array.getElem?_eq_some_iff.1 h).1
theorem EntAt.byte {W : World} {p : Nat} {a : List Int} {m u : Int} (h : EntAt W p a m u) (j : Nat) (x : Int) (hj : a[j]? = some x) : W.cell? ⟨p, 0 + j, none⟩ = some (.int .u8 x) := by
  rw [Nat.zero_add]
  refine blk_cell h ?_
  have hl := (List.getElem?_eq_some_iff.1 hj).1
  unfold eC
  rw [List.getElem?_append_left (by simpa [u8s] using hl)]
  simp [u8s, hj]
theorem EntAt.mtu {W : World} {p : Nat} {a : List Int} {m u : Int} (h : EntAt W p a m u) (hl : a.length = 16) : W.cell? ⟨p, 16, none⟩ = some (.int .i64 m) := by
  refine blk_cell h ?_
  unfold eC
  rw [List.getElem?_append_right (by simp [u8s, hl])]
  simp [u8s, hl]
theorem EntAt.til {W : World} {p : Nat} {a : List Int} {m u : Int} (h : EntAt W p a m u) (hl : a.length = 16) : W.cell? ⟨p, 17, none⟩ = some (.int .i64 u) := by
  refine blk_cell h ?_
  unfold eC
  rw [List.getElem?_append_right (by simp [u8s, hl])]
  simp [u8s, hl]
theorem wp_effX {P : Program} {o : Oper} {a : Act} {d : Option Nat} {w w2 : World} {v : Value} {K : Act → World → Prop} {Q : Exit → Act → World → Prop} (hd : o.dst = d) (hrun : (execOp a.eval o).run P w = .ok (.value v) w2) (hK : K (a.put d v) w2) : o.wp P a w K Q := by
  subst hd
  unfold Oper.wp
  rw [hrun]
  exact hK
theorem callR {P : Program} {f : FuncId} {vs : Array Value} {w : World} {v : Value} {B : World → Prop} (h : Calls P f vs w fun e w' => e = .returned v ∧ B w') : Calls P f vs w fun e w' => ∃ v', e = .returned v' ∧ (v' = v ∧ B w') :=
  h.mono (fun _ _ g => ⟨_, g.1, rfl, g.2⟩)
theorem ex_slc16 {o : Oper} {a : Act} {W : World} (k : Nat) {b n : Nat} (hop : o.op = Op.slice 35 (.tmp k) none none none) (hk : a.eval (.tmp k) = .pointer (some ⟨b, n, none⟩)) :
    (execOp a.eval o).run Try.prog W = .ok (.value (.slice (some ⟨b, n, none⟩) 16 16)) W := by
  generalize a.eval = ev at *
  simp [execOp, hop, hk, go_sem]
theorem ex_ldI {o : Oper} {a : Act} {W : World} (k : Nat) {p : Addr} {x : Int} (hop : o.op = Op.load 3 (.tmp k)) (hk : a.eval (.tmp k) = .pointer (some p)) (hc : W.cell? p = some (.int .i64 x)) : (execOp a.eval o).run Try.prog W = .ok (.value (.int .i64 x)) W := by
  generalize a.eval = ev at *
  simp [execOp, hop, hk, hc, go_sem, Instr.loadAt]
theorem infoInt : ∃ i, Try.prog.info? 3 = some i ∧ i.zero = some (.int .i64 0) ∧ i.size = 1 := by
  have : (Try.prog.info? 3).map (fun i => (i.zero, i.size)) = some (some (.int .i64 0), 1) := by kernel_rfl
  obtain ⟨i, h1, h2⟩ := Option.map_eq_some_iff.1 this
  injection h2 with h2 h3
  exact ⟨i, h1, h2, h3⟩
theorem bs2 (W : World) (x y : Int) : (Instr.buildSlice 46 2 #[(0, .int .i64 x), (1, .int .i64 y)]).run Try.prog W = .ok (.slice (some ⟨W.heap.size, 0, none⟩) 2 2) (W.alloc (.cells #[.int .i64 x, .int .i64 y] 3)) := by
  obtain ⟨i, hi, hz, hsz⟩ := infoInt
  refine run_buildSlice W 46 3 2 #[(0, .int .i64 x), (1, .int .i64 y)] #[.int .i64 x, .int .i64 y] i (.int .i64 0) Try.underlying46 hi hz (by rw [hsz]; omega) (by rw [hsz]; omega) (by rw [hsz]; kernel_rfl)
set_option maxHeartbeats 4000000 in
set_option maxRecDepth 100000 in
/-- cmp.Or of two numbers. -/
theorem or_calls {W : World} {g : Nat} (x y : Int) (h : W.heap[g]? = some (.cells [Value.int .i64 x, .int .i64 y].toArray 3)) :
    Calls Try.prog 55 #[.slice (some ⟨g, 0, none⟩) 2 2] W fun e w' => e = .returned (.int .i64 (if x = 0 then y else x)) ∧ w' = W := by
  have c0 : W.cell? ⟨g, 0, none⟩ = some (.int .i64 x) := blk_cell h rfl
  have c1 : W.cell? ⟨g, 1, none⟩ = some (.int .i64 y) := blk_cell h rfl
  clear h
  generalize hQ : (fun (e : Ending) (w' : World) => e = .returned (.int .i64 (if x = 0 then y else x)) ∧ w' = W) = Q
  have HQ : Hid (∀ e w', (e = .returned (.int .i64 (if x = 0 then y else x)) ∧ w' = W) → Q e w') := fun e w' hh => by rw [← hQ]; exact hh
  clear hQ
  go_enter Try.func55, Try.ntmps55
  go_wp2
  go_loopw [8] (fun i wr => ∃ n : Nat, n ≤ 2 ∧ i = .int .i64 n ∧ wr = W ∧ (1 ≤ n → x = 0) ∧ (2 ≤ n → y = 0)) (fun i _ => 2 - (intOf i).toNat)
  case atStart => exact ⟨0, by omega, rfl, rfl, fun h => by omega, fun h => by omega⟩
  case round =>
    obtain ⟨n, hn, rfl, rfl, hx, hy⟩ := hrel
    match n, hn with
    | 0, _ =>
      by_cases c : x = 0
      · have q : (x != 0) = false := by simp [c]
        clear hx hy
        go_wp2
        go_roundw
        case rel => exact ⟨1, by omega, by first | rfl | trivial | simp, by first | rfl | trivial, fun _ => c, fun h => by omega⟩
        case measure => simp [intOf]
      · have q : (x != 0) = true := by simp [c]
        clear hx hy
        go_wp2
        try go_returns
        exact HQ.out _ _ ⟨by rw [if_neg c]; rfl, rfl⟩
    | 1, _ =>
      have c := hx (by omega)
      by_cases d : y = 0
      · have q : (y != 0) = false := by simp [d]
        clear hx hy
        go_wp2
        go_roundw
        case rel => exact ⟨2, by omega, by first | rfl | trivial | simp, by first | rfl | trivial, fun _ => c, fun h => d⟩
        case measure => simp [intOf]
      · have q : (y != 0) = true := by simp [d]
        clear hx hy
        go_wp2
        try go_returns
        exact HQ.out _ _ ⟨by rw [if_pos c]; rfl, rfl⟩
    | 2, _ =>
      have c := hx (by omega)
      have d := hy (by omega)
      clear hx hy
      go_wp2
      try go_returns
      exact HQ.out _ _ ⟨by rw [if_pos c, d]; rfl, rfl⟩
theorem orE {W : World} {g : Nat} {a b : List Int} {u v : Int} (h : W.heap[g]? = some (.cells [Value.int .i64 (cmpN u v), .int .i64 (cmpI a b)].toArray 3)) :
    Calls Try.prog 55 #[.slice (some ⟨g, 0, none⟩) 2 2] W fun e w' => e = .returned (.int .i64 (cmpE u a v b)) ∧ w' = W := or_calls (cmpN u v) (cmpI a b) h
theorem ex_bs2 {o : Oper} {a : Act} {W : World} (k j : Nat) {x y : Int} (hop : o.op = Op.buildSlice 46 2 #[(0, .tmp j), (1, .tmp k)]) (hj : a.eval (.tmp j) = .int .i64 x) (hk : a.eval (.tmp k) = .int .i64 y) : (execOp a.eval o).run Try.prog W = .ok (.value (.slice (some ⟨W.heap.size, 0, none⟩) 2 2)) (W.alloc (.cells #[.int .i64 x, .int .i64 y] 3)) := by
  have h := bs2 W x y
  generalize a.eval = ev at *
  simp [execOp, hop, hj, hk, h, Result.andThen]
set_option maxHeartbeats 8000000 in
set_option maxRecDepth 100000 in
theorem order_any {V : World} {p q : Nat} {a b : List Int} {m n u v : Int} (fa : FitB a) (la : a.length = 16) (fb : FitB b) (lb : b.length = 16) (hp : EntAt V p a m u) (hq : EntAt V q b n v) :
    Calls Try.prog 50 #[.pointer (some ⟨p, 0, none⟩), .pointer (some ⟨q, 0, none⟩)] V fun e w' => e = .returned (.int .i64 (cmpE u a v b)) ∧ Below V.heap.size V w' := by
  generalize hQ : (fun (e : Ending) (w' : World) => e = .returned (.int .i64 (cmpE u a v b)) ∧ Below V.heap.size V w') = Q
  have HQ : Hid (∀ e w', (e = .returned (.int .i64 (cmpE u a v b)) ∧ Below V.heap.size V w') → Q e w') := fun e w' hh => by rw [← hQ]; exact hh
  clear hQ
  go_enter Try.func50, Try.ntmps50
  go_wp2_with fail
  refine wp_region_held (S := fun X => Below V.heap.size V X) (by kernel_rfl) ?_
  show wpAnyH _ _ _ _ _ 21 (Array.replicate 21 false) _ V.drew
  have s0 : Below V.heap.size V V.drew := (Below.refl _ V).drew
  generalize V.drew = V0 at *
  refine take_one (i := 0) (d := some 5) (v := .pointer (some ⟨p, 0, none⟩)) rfl rfl rfl (by kernel_rfl) (by kernel_rfl) (by kernel_rfl) (fun _ _ d _ _ h => by cases d <;> exact h) (fun W hS => by kernel_rfl) s0 ?_
  simp only [Act.put, List.setIfInBounds_toArray, List.set_cons_zero, List.set_cons_succ]
  refine take_one (i := 1) (d := some 6) (v := .pointer (some ⟨p, 0, none⟩)) rfl rfl rfl (by kernel_rfl) (by kernel_rfl) (by kernel_rfl) (fun _ _ d _ _ h => by cases d <;> exact h) (fun W hS => by kernel_rfl) s0 ?_
  simp only [Act.put, List.setIfInBounds_toArray, List.set_cons_zero, List.set_cons_succ]
  refine take_one (i := 2) (d := some 7) (v := .pointer (some ⟨p, 17, none⟩)) rfl rfl rfl (by kernel_rfl) (by kernel_rfl) (by kernel_rfl) (fun _ _ d _ _ h => by cases d <;> exact h) (fun W hS => by kernel_rfl) s0 ?_
  simp only [Act.put, List.setIfInBounds_toArray, List.set_cons_zero, List.set_cons_succ]
  refine take_one (i := 3) (d := some 8) (v := .int .i64 u) rfl rfl rfl (by kernel_rfl) (by kernel_rfl) (by kernel_rfl) (fun _ _ d _ _ h => by cases d <;> exact h) (fun W hS => ex_ldI 7 rfl rfl ((hp.on (hS.block p hp.lt)).til la)) s0 ?_
  simp only [Act.put, List.setIfInBounds_toArray, List.set_cons_zero, List.set_cons_succ]
  refine take_one (i := 4) (d := some 9) (v := .pointer (some ⟨q, 0, none⟩)) rfl rfl rfl (by kernel_rfl) (by kernel_rfl) (by kernel_rfl) (fun _ _ d _ _ h => by cases d <;> exact h) (fun W hS => by kernel_rfl) s0 ?_
  simp only [Act.put, List.setIfInBounds_toArray, List.set_cons_zero, List.set_cons_succ]
  refine take_one (i := 5) (d := some 10) (v := .pointer (some ⟨q, 0, none⟩)) rfl rfl rfl (by kernel_rfl) (by kernel_rfl) (by kernel_rfl) (fun _ _ d _ _ h => by cases d <;> exact h) (fun W hS => by kernel_rfl) s0 ?_
  simp only [Act.put, List.setIfInBounds_toArray, List.set_cons_zero, List.set_cons_succ]
  refine take_one (i := 6) (d := some 11) (v := .pointer (some ⟨q, 17, none⟩)) rfl rfl rfl (by kernel_rfl) (by kernel_rfl) (by kernel_rfl) (fun _ _ d _ _ h => by cases d <;> exact h) (fun W hS => by kernel_rfl) s0 ?_
  simp only [Act.put, List.setIfInBounds_toArray, List.set_cons_zero, List.set_cons_succ]
  refine take_one (i := 7) (d := some 12) (v := .int .i64 v) rfl rfl rfl (by kernel_rfl) (by kernel_rfl) (by kernel_rfl) (fun _ _ d _ _ h => by cases d <;> exact h) (fun W hS => ex_ldI 11 rfl rfl ((hq.on (hS.block q hq.lt)).til lb)) s0 ?_
  simp only [Act.put, List.setIfInBounds_toArray, List.set_cons_zero, List.set_cons_succ]
  refine take_one (i := 9) (d := some 14) (v := .pointer (some ⟨p, 0, none⟩)) rfl rfl rfl (by kernel_rfl) (by kernel_rfl) (by kernel_rfl) (fun _ _ d _ _ h => by cases d <;> exact h) (fun W hS => by kernel_rfl) s0 ?_
  simp only [Act.put, List.setIfInBounds_toArray, List.set_cons_zero, List.set_cons_succ]
  refine take_one (i := 10) (d := some 15) (v := .pointer (some ⟨p, 0, none⟩)) rfl rfl rfl (by kernel_rfl) (by kernel_rfl) (by kernel_rfl) (fun _ _ d _ _ h => by cases d <;> exact h) (fun W hS => by kernel_rfl) s0 ?_
  simp only [Act.put, List.setIfInBounds_toArray, List.set_cons_zero, List.set_cons_succ]
  refine take_one (i := 11) (d := some 16) (v := .pointer (some ⟨p, 0, none⟩)) rfl rfl rfl (by kernel_rfl) (by kernel_rfl) (by kernel_rfl) (fun _ _ d _ _ h => by cases d <;> exact h) (fun W hS => by kernel_rfl) s0 ?_
  simp only [Act.put, List.setIfInBounds_toArray, List.set_cons_zero, List.set_cons_succ]
  refine take_one (i := 12) (d := some 17) (v := .slice (some ⟨p, 0, none⟩) 16 16) rfl rfl rfl (by kernel_rfl) (by kernel_rfl) (by kernel_rfl) (fun _ _ d _ _ h => by cases d <;> exact h) (fun W hS => ex_slc16 16 rfl rfl) s0 ?_
  simp only [Act.put, List.setIfInBounds_toArray, List.set_cons_zero, List.set_cons_succ]
  refine take_one (i := 13) (d := some 18) (v := .pointer (some ⟨q, 0, none⟩)) rfl rfl rfl (by kernel_rfl) (by kernel_rfl) (by kernel_rfl) (fun _ _ d _ _ h => by cases d <;> exact h) (fun W hS => by kernel_rfl) s0 ?_
  simp only [Act.put, List.setIfInBounds_toArray, List.set_cons_zero, List.set_cons_succ]
  refine take_one (i := 14) (d := some 19) (v := .pointer (some ⟨q, 0, none⟩)) rfl rfl rfl (by kernel_rfl) (by kernel_rfl) (by kernel_rfl) (fun _ _ d _ _ h => by cases d <;> exact h) (fun W hS => by kernel_rfl) s0 ?_
  simp only [Act.put, List.setIfInBounds_toArray, List.set_cons_zero, List.set_cons_succ]
  refine take_one (i := 15) (d := some 20) (v := .pointer (some ⟨q, 0, none⟩)) rfl rfl rfl (by kernel_rfl) (by kernel_rfl) (by kernel_rfl) (fun _ _ d _ _ h => by cases d <;> exact h) (fun W hS => by kernel_rfl) s0 ?_
  simp only [Act.put, List.setIfInBounds_toArray, List.set_cons_zero, List.set_cons_succ]
  refine take_one (i := 16) (d := some 21) (v := .slice (some ⟨q, 0, none⟩) 16 16) rfl rfl rfl (by kernel_rfl) (by kernel_rfl) (by kernel_rfl) (fun _ _ d _ _ h => by cases d <;> exact h) (fun W hS => ex_slc16 20 rfl rfl) s0 ?_
  simp only [Act.put, List.setIfInBounds_toArray, List.set_cons_zero, List.set_cons_succ]
  refine all_one (i := 8) (by kernel_rfl) rfl rfl ?_
  refine wp_call (d := some 13) 56 _ rfl (by kernel_rfl) (callR (cmp_calls u v _)) ?_
  rintro _ X1 ⟨rfl, rfl⟩
  refine ⟨s0, ?_⟩
  simp only [Act.put, List.setIfInBounds_toArray, List.set_cons_zero, List.set_cons_succ]
  refine all_one (i := 17) (by kernel_rfl) rfl rfl ?_
  refine wp_call (d := some 22) 45 _ rfl (by kernel_rfl) (callR (by have := bcmp_calls (W := X1) (p := p) (q := q) (o := 0) (r := 0) (c := 16) (d := 16) fa fb (fun j x hj => (hp.on (s0.block p hp.lt)).byte j x hj) (fun j x hj => (hq.on (s0.block q hq.lt)).byte j x hj); rw [la, lb] at this; exact this)) ?_
  rintro _ X2 ⟨rfl, rfl⟩
  refine ⟨s0, ?_⟩
  simp only [Act.put, List.setIfInBounds_toArray, List.set_cons_zero, List.set_cons_succ]
  refine all_one (i := 18) (by kernel_rfl) rfl rfl ?_
  refine wp_effX (d := some 23) (v := .slice (some ⟨X2.heap.size, 0, none⟩) 2 2) (w2 := X2.alloc (.cells #[.int .i64 (cmpN u v), .int .i64 (cmpI a b)] 3)) rfl (ex_bs2 22 13 rfl rfl rfl) ⟨s0.alloc s0.size _, ?_⟩
  simp only [Act.put, List.setIfInBounds_toArray, List.set_cons_zero, List.set_cons_succ]
  have s1 : Below V.heap.size V (X2.alloc (.cells #[.int .i64 (cmpN u v), .int .i64 (cmpI a b)] 3)) := s0.alloc s0.size _
  refine all_one (i := 19) (by kernel_rfl) rfl rfl ?_
  refine wp_call (d := some 24) 55 _ rfl (by kernel_rfl) (callR (orE (blk_new _ _))) ?_
  rintro _ X3 ⟨rfl, rfl⟩
  refine ⟨s1, ?_⟩
  simp only [Act.put, List.setIfInBounds_toArray, List.set_cons_zero, List.set_cons_succ]
  refine take_one (i := 20) (d := some 4) (v := .int .i64 (cmpE u a v b)) rfl rfl rfl (by kernel_rfl) (by kernel_rfl) (by kernel_rfl) (fun _ _ d _ _ h => by cases d <;> exact h) (fun W hS => by kernel_rfl) s1 ?_
  simp only [Act.put, List.setIfInBounds_toArray, List.set_cons_zero, List.set_cons_succ]
  refine wpAnyH_done (by kernel_rfl) ?_ _
  try go_returns
  first
  | exact HQ.out _ _ ⟨rfl, s1⟩
  | (go_wp2_with fail
     try go_returns
     exact HQ.out _ _ ⟨rfl, s1⟩)
end Go.Proofs.Ytgndiblonhgihaa
