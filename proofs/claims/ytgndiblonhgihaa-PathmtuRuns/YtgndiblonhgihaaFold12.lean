/-
  Which of two entries goes first: cmp.Or, order.
  What a cache keeps, in memory; what sort.Search is asked.
-/
import Derived.Test.YtgndiblonhgihaaFold11
import Derived.Great.BuildSlice
namespace Go.Proofs.Ytgndiblonhgihaa
open Go Go.RowKit
set_option linter.unusedVariables false
set_option linter.unusedSimpArgs false

/-- What lies in an entry's box. -/
def eC (a : List Int) (m u : Int) : List Value := u8s a ++ [.int .i64 m, .int .i64 u]
def EntAt (W : World) (p : Nat) (a : List Int) (m u : Int) : Prop := W.heap[p]? = some (.cells (eC a m u).toArray 72)
theorem EntAt.on {W W' : World} {p : Nat} {a : List Int} {m u : Int} (h : EntAt W p a m u) (hb : W'.heap[p]? = W.heap[p]?) : EntAt W' p a m u := hb.trans h
theorem EntAt.lt {W : World} {p : Nat} {a : List Int} {m u : Int} (h : EntAt W p a m u) : p < W.heap.size := (Array.getElem?_eq_some_iff.1 h).1
theorem EntAt.byte {W : World} {p : Nat} {a : List Int} {m u : Int} (h : EntAt W p a m u) (j : Nat) (x : Int) (hj : a[j]? = some x) : W.cell? ⟨p, 0 + j, none⟩ = some (.int .u8 x) := by
  rw [Nat.zero_add]
  refine blk_cell h ?_
  have hl := (List.getElem?_eq_some_iff.1 hj).1
  unfold eC
  rw [List.getElem?_append_left (by simpa [u8s] using hl)]
  simp [u8s, hj]
theorem EntAt.mtu {W : World} {p : Nat} {a : List Int} {m u : Int} (h : EntAt W p a m u) (hl : a.length = 16) : W.cell? ⟨p, 16, none⟩ = some (.int .i64 m) := by
  refine blk_cell h ?_
  unfold eC
  rw [List.getElem?_append_right (by simp [u8s, hl])]
  simp [u8s, hl]
theorem EntAt.til {W : World} {p : Nat} {a : List Int} {m u : Int} (h : EntAt W p a m u) (hl : a.length = 16) : W.cell? ⟨p, 17, none⟩ = some (.int .i64 u) := by
  refine blk_cell h ?_
  unfold eC
  rw [List.getElem?_append_right (by simp [u8s, hl])]
  simp [u8s, hl]
theorem wp_effX {P : Program} {o : Oper} {a : Act} {d : Option Nat} {w w2 : World} {v : Value} {K : Act → World → Prop} {Q : Exit → Act → World → Prop} (hd : o.dst = d) (hrun : (execOp a.eval o).run P w = .ok (.value v) w2) (hK : K (a.put d v) w2) : o.wp P a w K Q := by
  subst hd
  unfold Oper.wp
  rw [hrun]
  exact hK
theorem callR {P : Program} {f : FuncId} {vs : Array Value} {w : World} {v : Value} {B : World → Prop} (h : Calls P f vs w fun e w' => e = .returned v ∧ B w') : Calls P f vs w fun e w' => ∃ v', e = .returned v' ∧ (v' = v ∧ B w') :=
  h.mono (fun _ _ g => ⟨_, g.1, rfl, g.2⟩)
theorem ex_slc16 {o : Oper} {a : Act} {W : World} (k : Nat) {b n : Nat} (hop : o.op = Op.slice 35 (.tmp k) none none none) (hk : a.eval (.tmp k) = .pointer (some ⟨b, n, none⟩)) :
    (execOp a.eval o).run Try.prog W = .ok (.value (.slice (some ⟨b, n, none⟩) 16 16)) W := by
  generalize a.eval = ev at *
  simp [execOp, hop, hk, go_sem]
theorem ex_ldI {o : Oper} {a : Act} {W : World} (k : Nat) {p : Addr} {x : Int} (hop : o.op = Op.load 3 (.tmp k)) (hk : a.eval (.tmp k) = .pointer (some p)) (hc : W.cell? p = some (.int .i64 x)) : (execOp a.eval o).run Try.prog W = .ok (.value (.int .i64 x)) W := by
  generalize a.eval = ev at *
  simp [execOp, hop, hk, hc, go_sem, Instr.loadAt]
theorem infoInt : ∃ i, Try.prog.info? 3 = some i ∧ i.zero = some (.int .i64 0) ∧ i.size = 1 := by
  have : (Try.prog.info? 3).map (fun i => (i.zero, i.size)) = some (some (.int .i64 0), 1) := by kernel_rfl
  obtain ⟨i, h1, h2⟩ := Option.map_eq_some_iff.1 this
  injection h2 with h2 h3
  exact ⟨i, h1, h2, h3⟩
theorem bs2 (W : World) (x y : Int) : (Instr.buildSlice 46 2 #[(0, .int .i64 x), (1, .int .i64 y)]).run Try.prog W = .ok (.slice (some ⟨W.heap.size, 0, none⟩) 2 2) (W.alloc (.cells #[.int .i64 x, .int .i64 y] 3)) := by
  obtain ⟨i, hi, hz, hsz⟩ := infoInt
  refine run_buildSlice W 46 3 2 #[(0, .int .i64 x), (1, .int .i64 y)] #[.int .i64 x, .int .i64 y] i (.int .i64 0) Try.underlying46 hi hz (by rw [hsz]; omega) (by rw [hsz]; omega) (by rw [hsz]; kernel_rfl)
set_option maxHeartbeats 4000000 in
set_option maxRecDepth 100000 in
/-- cmp.Or of two numbers. -/
theorem or_calls {W : World} {g : Nat} (x y : Int) (h : W.heap[g]? = some (.cells [Value.int .i64 x, .int .i64 y].toArray 3)) :
    Calls Try.prog 55 #[.slice (some ⟨g, 0, none⟩) 2 2] W fun e w' => e = .returned (.int .i64 (if x = 0 then y else x)) ∧ w' = W := by
  have c0 : W.cell? ⟨g, 0, none⟩ = some (.int .i64 x) := blk_cell h rfl
  have c1 : W.cell? ⟨g, 1, none⟩ = some (.int .i64 y) := blk_cell h rfl
  clear h
  generalize hQ : (fun (e : Ending) (w' : World) => e = .returned (.int .i64 (if x = 0 then y else x)) ∧ w' = W) = Q
  have HQ : Hid (∀ e w', (e = .returned (.int .i64 (if x = 0 then y else x)) ∧ w' = W) → Q e w') := fun e w' hh => by rw [← hQ]; exact hh
  clear hQ
  go_enter Try.func55, Try.ntmps55
  go_wp2
  go_loopw [8] (fun i wr => ∃ n : Nat, n ≤ 2 ∧ i = .int .i64 n ∧ wr = W ∧ (1 ≤ n → x = 0) ∧ (2 ≤ n → y = 0)) (fun i _ => 2 - (intOf i).toNat)
  case atStart => exact ⟨0, by omega, rfl, rfl, fun h => by omega, fun h => by omega⟩
  case round =>
    obtain ⟨n, hn, rfl, rfl, hx, hy⟩ := hrel
    match n, hn with
    | 0, _ =>
      by_cases c : x = 0
      · have q : (x != 0) = false := by simp [c]
        clear hx hy
        go_wp2
        go_roundw
        case rel => exact ⟨1, by omega, by first | rfl | trivial | simp, by first | rfl | trivial, fun _ => c, fun h => by omega⟩
        case measure => simp [intOf]
      · have q : (x != 0) = true := by simp [c]
        clear hx hy
        go_wp2
        try go_returns
        exact HQ.out _ _ ⟨by rw [if_neg c]; rfl, rfl⟩
    | 1, _ =>
      have c := hx (by omega)
      by_cases d : y = 0
      · have q : (y != 0) = false := by simp [d]
        clear hx hy
        go_wp2
        go_roundw
        case rel => exact ⟨2, by omega, by first | rfl | trivial | simp, by first | rfl | trivial, fun _ => c, fun h => d⟩
        case measure => simp [intOf]
      · have q : (y != 0) = true := by simp [d]
        clear hx hy
        go_wp2
        try go_returns
        exact HQ.out _ _ ⟨by rw [if_pos c]; rfl, rfl⟩
    | 2, _ =>
      have c := hx (by omega)
      have d := hy (by omega)
      clear hx hy
      go_wp2
      try go_returns
      exact HQ.out _ _ ⟨by rw [if_pos c, d]; rfl, rfl⟩
theorem orE {W : World} {g : Nat} {a b : List Int} {u v : Int} (h : W.heap[g]? = some (.cells [Value.int .i64 (cmpN u v), .int .i64 (cmpI a b)].toArray 3)) :
    Calls Try.prog 55 #[.slice (some ⟨g, 0, none⟩) 2 2] W fun e w' => e = .returned (.int .i64 (cmpE u a v b)) ∧ w' = W := or_calls (cmpN u v) (cmpI a b) h
theorem ex_bs2 {o : Oper} {a : Act} {W : World} (k j : Nat) {x y : Int} (hop : o.op = Op.buildSlice 46 2 #[(0, .tmp j), (1, .tmp k)]) (hj : a.eval (.tmp j) = .int .i64 x) (hk : a.eval (.tmp k) = .int .i64 y) : (execOp a.eval o).run Try.prog W = .ok (.value (.slice (some ⟨W.heap.size, 0, none⟩) 2 2)) (W.alloc (.cells #[.int .i64 x, .int .i64 y] 3)) := by
  have h := bs2 W x y
  generalize a.eval = ev at *
  simp [execOp, hop, hj, hk, h, Result.andThen]
set_option maxHeartbeats 8000000 in
set_option maxRecDepth 100000 in
theorem order_any {V : World} {p q : Nat} {a b : List Int} {m n u v : Int} (fa : FitB a) (la : a.length = 16) (fb : FitB b) (lb : b.length = 16) (hp : EntAt V p a m u) (hq : EntAt V q b n v) :
    Calls Try.prog 50 #[.pointer (some ⟨p, 0, none⟩), .pointer (some ⟨q, 0, none⟩)] V fun e w' => e = .returned (.int .i64 (cmpE u a v b)) ∧ Below V.heap.size V w' := by
  generalize hQ : (fun (e : Ending) (w' : World) => e = .returned (.int .i64 (cmpE u a v b)) ∧ Below V.heap.size V w') = Q
  have HQ : Hid (∀ e w', (e = .returned (.int .i64 (cmpE u a v b)) ∧ Below V.heap.size V w') → Q e w') := fun e w' hh => by rw [← hQ]; exact hh
  clear hQ
  go_enter Try.func50, Try.ntmps50
  go_wp2_with fail
  refine wp_region_held (S := fun X => Below V.heap.size V X) (by kernel_rfl) ?_
  show wpAnyH _ _ _ _ _ 21 (Array.replicate 21 false) _ V.drew
  have s0 : Below V.heap.size V V.drew := (Below.refl _ V).drew
  generalize V.drew = V0 at *
  refine take_one (i := 0) (d := some 5) (v := .pointer (some ⟨p, 0, none⟩)) rfl rfl rfl (by kernel_rfl) (by kernel_rfl) (by kernel_rfl) (fun _ _ d _ _ h => by cases d <;> exact h) (fun W hS => by kernel_rfl) s0 ?_
  simp only [Act.put, List.setIfInBounds_toArray, List.set_cons_zero, List.set_cons_succ]
  refine take_one (i := 1) (d := some 6) (v := .pointer (some ⟨p, 0, none⟩)) rfl rfl rfl (by kernel_rfl) (by kernel_rfl) (by kernel_rfl) (fun _ _ d _ _ h => by cases d <;> exact h) (fun W hS => by kernel_rfl) s0 ?_
  simp only [Act.put, List.setIfInBounds_toArray, List.set_cons_zero, List.set_cons_succ]
  refine take_one (i := 2) (d := some 7) (v := .pointer (some ⟨p, 17, none⟩)) rfl rfl rfl (by kernel_rfl) (by kernel_rfl) (by kernel_rfl) (fun _ _ d _ _ h => by cases d <;> exact h) (fun W hS => by kernel_rfl) s0 ?_
  simp only [Act.put, List.setIfInBounds_toArray, List.set_cons_zero, List.set_cons_succ]
  refine take_one (i := 3) (d := some 8) (v := .int .i64 u) rfl rfl rfl (by kernel_rfl) (by kernel_rfl) (by kernel_rfl) (fun _ _ d _ _ h => by cases d <;> exact h) (fun W hS => ex_ldI 7 rfl rfl ((hp.on (hS.block p hp.lt)).til la)) s0 ?_
  simp only [Act.put, List.setIfInBounds_toArray, List.set_cons_zero, List.set_cons_succ]
  refine take_one (i := 4) (d := some 9) (v := .pointer (some ⟨q, 0, none⟩)) rfl rfl rfl (by kernel_rfl) (by kernel_rfl) (by kernel_rfl) (fun _ _ d _ _ h => by cases d <;> exact h) (fun W hS => by kernel_rfl) s0 ?_
  simp only [Act.put, List.setIfInBounds_toArray, List.set_cons_zero, List.set_cons_succ]
  refine take_one (i := 5) (d := some 10) (v := .pointer (some ⟨q, 0, none⟩)) rfl rfl rfl (by kernel_rfl) (by kernel_rfl) (by kernel_rfl) (fun _ _ d _ _ h => by cases d <;> exact h) (fun W hS => by kernel_rfl) s0 ?_
  simp only [Act.put, List.setIfInBounds_toArray, List.set_cons_zero, List.set_cons_succ]
  refine take_one (i := 6) (d := some 11) (v := .pointer (some ⟨q, 17, none⟩)) rfl rfl rfl (by kernel_rfl) (by kernel_rfl) (by kernel_rfl) (fun _ _ d _ _ h => by cases d <;> exact h) (fun W hS => by kernel_rfl) s0 ?_
  simp only [Act.put, List.setIfInBounds_toArray, List.set_cons_zero, List.set_cons_succ]
  refine take_one (i := 7) (d := some 12) (v := .int .i64 v) rfl rfl rfl (by kernel_rfl) (by kernel_rfl) (by kernel_rfl) (fun _ _ d _ _ h => by cases d <;> exact h) (fun W hS => ex_ldI 11 rfl rfl ((hq.on (hS.block q hq.lt)).til lb)) s0 ?_
  simp only [Act.put, List.setIfInBounds_toArray, List.set_cons_zero, List.set_cons_succ]
  refine take_one (i := 9) (d := some 14) (v := .pointer (some ⟨p, 0, none⟩)) rfl rfl rfl (by kernel_rfl) (by kernel_rfl) (by kernel_rfl) (fun _ _ d _ _ h => by cases d <;> exact h) (fun W hS => by kernel_rfl) s0 ?_
  simp only [Act.put, List.setIfInBounds_toArray, List.set_cons_zero, List.set_cons_succ]
  refine take_one (i := 10) (d := some 15) (v := .pointer (some ⟨p, 0, none⟩)) rfl rfl rfl (by kernel_rfl) (by kernel_rfl) (by kernel_rfl) (fun _ _ d _ _ h => by cases d <;> exact h) (fun W hS => by kernel_rfl) s0 ?_
  simp only [Act.put, List.setIfInBounds_toArray, List.set_cons_zero, List.set_cons_succ]
  refine take_one (i := 11) (d := some 16) (v := .pointer (some ⟨p, 0, none⟩)) rfl rfl rfl (by kernel_rfl) (by kernel_rfl) (by kernel_rfl) (fun _ _ d _ _ h => by cases d <;> exact h) (fun W hS => by kernel_rfl) s0 ?_
  simp only [Act.put, List.setIfInBounds_toArray, List.set_cons_zero, List.set_cons_succ]
  refine take_one (i := 12) (d := some 17) (v := .slice (some ⟨p, 0, none⟩) 16 16) rfl rfl rfl (by kernel_rfl) (by kernel_rfl) (by kernel_rfl) (fun _ _ d _ _ h => by cases d <;> exact h) (fun W hS => ex_slc16 16 rfl rfl) s0 ?_
  simp only [Act.put, List.setIfInBounds_toArray, List.set_cons_zero, List.set_cons_succ]
  refine take_one (i := 13) (d := some 18) (v := .pointer (some ⟨q, 0, none⟩)) rfl rfl rfl (by kernel_rfl) (by kernel_rfl) (by kernel_rfl) (fun _ _ d _ _ h => by cases d <;> exact h) (fun W hS => by kernel_rfl) s0 ?_
  simp only [Act.put, List.setIfInBounds_toArray, List.set_cons_zero, List.set_cons_succ]
  refine take_one (i := 14) (d := some 19) (v := .pointer (some ⟨q, 0, none⟩)) rfl rfl rfl (by kernel_rfl) (by kernel_rfl) (by kernel_rfl) (fun _ _ d _ _ h => by cases d <;> exact h) (fun W hS => by kernel_rfl) s0 ?_
  simp only [Act.put, List.setIfInBounds_toArray, List.set_cons_zero, List.set_cons_succ]
  refine take_one (i := 15) (d := some 20) (v := .pointer (some ⟨q, 0, none⟩)) rfl rfl rfl (by kernel_rfl) (by kernel_rfl) (by kernel_rfl) (fun _ _ d _ _ h => by cases d <;> exact h) (fun W hS => by kernel_rfl) s0 ?_
  simp only [Act.put, List.setIfInBounds_toArray, List.set_cons_zero, List.set_cons_succ]
  refine take_one (i := 16) (d := some 21) (v := .slice (some ⟨q, 0, none⟩) 16 16) rfl rfl rfl (by kernel_rfl) (by kernel_rfl) (by kernel_rfl) (fun _ _ d _ _ h => by cases d <;> exact h) (fun W hS => ex_slc16 20 rfl rfl) s0 ?_
  simp only [Act.put, List.setIfInBounds_toArray, List.set_cons_zero, List.set_cons_succ]
  refine all_one (i := 8) (by kernel_rfl) rfl rfl ?_
  refine wp_call (d := some 13) 56 _ rfl (by kernel_rfl) (callR (cmp_calls u v _)) ?_
  rintro _ X1 ⟨rfl, rfl⟩
  refine ⟨s0, ?_⟩
  simp only [Act.put, List.setIfInBounds_toArray, List.set_cons_zero, List.set_cons_succ]
  refine all_one (i := 17) (by kernel_rfl) rfl rfl ?_
  refine wp_call (d := some 22) 45 _ rfl (by kernel_rfl) (callR (by have := bcmp_calls (W := X1) (p := p) (q := q) (o := 0) (r := 0) (c := 16) (d := 16) fa fb (fun j x hj => (hp.on (s0.block p hp.lt)).byte j x hj) (fun j x hj => (hq.on (s0.block q hq.lt)).byte j x hj); rw [la, lb] at this; exact this)) ?_
  rintro _ X2 ⟨rfl, rfl⟩
  refine ⟨s0, ?_⟩
  simp only [Act.put, List.setIfInBounds_toArray, List.set_cons_zero, List.set_cons_succ]
  refine all_one (i := 18) (by kernel_rfl) rfl rfl ?_
  refine wp_effX (d := some 23) (v := .slice (some ⟨X2.heap.size, 0, none⟩) 2 2) (w2 := X2.alloc (.cells #[.int .i64 (cmpN u v), .int .i64 (cmpI a b)] 3)) rfl (ex_bs2 22 13 rfl rfl rfl) ⟨s0.alloc s0.size _, ?_⟩
  simp only [Act.put, List.setIfInBounds_toArray, List.set_cons_zero, List.set_cons_succ]
  have s1 : Below V.heap.size V (X2.alloc (.cells #[.int .i64 (cmpN u v), .int .i64 (cmpI a b)] 3)) := s0.alloc s0.size _
  refine all_one (i := 19) (by kernel_rfl) rfl rfl ?_
  refine wp_call (d := some 24) 55 _ rfl (by kernel_rfl) (callR (orE (blk_new _ _))) ?_
  rintro _ X3 ⟨rfl, rfl⟩
  refine ⟨s1, ?_⟩
  simp only [Act.put, List.setIfInBounds_toArray, List.set_cons_zero, List.set_cons_succ]
  refine take_one (i := 20) (d := some 4) (v := .int .i64 (cmpE u a v b)) rfl rfl rfl (by kernel_rfl) (by kernel_rfl) (by kernel_rfl) (fun _ _ d _ _ h => by cases d <;> exact h) (fun W hS => by kernel_rfl) s1 ?_
  simp only [Act.put, List.setIfInBounds_toArray, List.set_cons_zero, List.set_cons_succ]
  refine wpAnyH_done (by kernel_rfl) ?_ _
  try go_returns
  first
  | exact HQ.out _ _ ⟨rfl, s1⟩
  | (go_wp2_with fail
     try go_returns
     exact HQ.out _ _ ⟨rfl, s1⟩)
end Go.Proofs.Ytgndiblonhgihaa

namespace Go.Proofs.Ytgndiblonhgihaa
open Go Go.RowKit
set_option linter.unusedVariables false
set_option linter.unusedSimpArgs false

/-- An entry of a path. -/
structure PE where
  k : List Int
  m : Int
  u : Int
def PE.Ok (e : PE) : Prop := FitB e.k ∧ e.k.length = 16
def PE.At (W : World) (x : PE × Nat) : Prop := EntAt W x.2 x.1.k x.1.m x.1.u
def ptrs (L : List (PE × Nat)) : List Value := L.map fun x => .pointer (some ⟨x.2, 0, none⟩)
theorem ptrs_len (L : List (PE × Nat)) : (ptrs L).length = L.length := by simp [ptrs]
/-- A cache's settings. -/
structure Cf where
  lim : Int
  link : Int
  life : Int
  least : Int
def pC (cf : Cf) (now : Int) (mb : Nat) (line : Value) : List Value := [.int .i64 cf.lim, .int .i64 cf.link, .int .i64 cf.life, .int .i64 cf.least, .int .i64 now, .map (some mb), line]
theorem own_same {w w' : World} {base size n : Nat} {e : TypeId} {v : Value} {xs : List Value} (h : w.ownsRow base e size v n xs) (hb : ∀ b, v.ownBlock = some b → w'.heap[b]? = w.heap[b]?) : w'.ownsRow base e size v n xs := by
  refine ⟨h.1, ?_⟩
  rcases h.2 with h2 | ⟨g, cap, cur, rfl, h1, h2, h3⟩
  · exact .inl h2
  · exact .inr ⟨g, cap, cur, rfl, h1, (hb g rfl).trans h2, h3⟩
theorem own_lt {w : World} {base size n : Nat} {e : TypeId} {v : Value} {xs : List Value} (h : w.ownsRow base e size v n xs) {b : Nat} (hb : v.ownBlock = some b) : b < w.heap.size := by
  rcases h.2 with ⟨rfl, _⟩ | ⟨g, cap, cur, rfl, h1, h2, h3⟩
  · simp [Value.ownBlock] at hb
  · simp [Value.ownBlock] at hb
    subst hb
    exact (Array.getElem?_eq_some_iff.1 h2).1
theorem own_slc {w : World} {base size n : Nat} {e : TypeId} {v : Value} {xs : List Value} (h : w.ownsRow base e size v n xs) : ∃ a c, v = .slice a n c := by
  rcases h.2 with ⟨rfl, h0⟩ | ⟨g, cap, cur, rfl, _⟩
  · rw [h0]; exact ⟨_, _, rfl⟩
  · exact ⟨_, _, rfl⟩
/-- What a cache keeps: its settings, its time, its line of entries. -/
structure Paths (pb : Nat) (cf : Cf) (now : Int) (mb : Nat) (line : Value) (L : List (PE × Nat)) (W : World) : Prop where
  box : W.heap[pb]? = some (.cells (pC cf now mb line).toArray 64)
  row : W.ownsRow 0 74 1 line L.length (ptrs L)
  ents : ∀ x ∈ L, x.1.Ok ∧ PE.At W x
section
variable {pb mb : Nat} {cf : Cf} {now : Int} {line : Value} {L : List (PE × Nat)} {W : World} (h : Paths pb cf now mb line L W)
include h
theorem Paths.lt : pb < W.heap.size := (Array.getElem?_eq_some_iff.1 h.box).1
theorem Paths.same {W' : World} (h1 : W'.heap[pb]? = W.heap[pb]?) (h2 : ∀ b, line.ownBlock = some b → W'.heap[b]? = W.heap[b]?) (h3 : ∀ x ∈ L, W'.heap[x.2]? = W.heap[x.2]?) : Paths pb cf now mb line L W' :=
  ⟨h1.trans h.box, own_same h.row h2, fun x hx => ⟨(h.ents x hx).1, (h.ents x hx).2.on (h3 x hx)⟩⟩
theorem Paths.on {W' : World} (hb : Below W.heap.size W W') : Paths pb cf now mb line L W' :=
  h.same (hb.block _ h.lt) (fun b hb' => hb.block b (own_lt h.row hb')) (fun x hx => hb.block _ (h.ents x hx).2.lt)
theorem Paths.slc : ∃ a c, line = .slice a L.length c := own_slc h.row
theorem Paths.at {i : Nat} {x : PE × Nat} (hx : L[i]? = some x) : ∃ g c, line = .slice (some ⟨g, 0, none⟩) L.length c ∧ W.cell? ⟨g, i, none⟩ = some (.pointer (some ⟨x.2, 0, none⟩)) := by
  have hl := (List.getElem?_eq_some_iff.1 hx).1
  have hr := h.row
  rcases hr.2 with ⟨_, h0⟩ | ⟨g, cap, cur, hv, h1, h2, h3⟩
  · omega
  · subst hv
    refine ⟨g, cap, rfl, ?_⟩
    have h4 := World.ownsRow.cellAt hr i (by omega)
    rw [h4]
    simp [ptrs, hx]
theorem Paths.cell (j : Nat) (v : Value) (hj : (pC cf now mb line)[j]? = some v) : W.cell? ⟨pb, j, none⟩ = some v := blk_cell h.box hj
end
section
variable {W : World} {a q : Addr}
theorem ld_pp (h : W.cell? a = some (.pointer (some q))) : (Instr.loadAt 50 (.pointer (some a))).run Try.prog W = .ok (.pointer (some q)) W := by simp [Instr.loadAt, go_sem, h]
theorem ld_pe (h : W.cell? a = some (.pointer (some q))) : (Instr.loadAt 74 (.pointer (some a))).run Try.prog W = .ok (.pointer (some q)) W := by simp [Instr.loadAt, go_sem, h]
theorem ld_row {x : Option Addr} {n c : Nat} (h : W.cell? a = some (.slice x n c)) : (Instr.loadAt 62 (.pointer (some a))).run Try.prog W = .ok (.slice x n c) W := by simp [Instr.loadAt, go_sem, h]
theorem ld_map {m : Option Nat} (h : W.cell? a = some (.map m)) : (Instr.loadAt 61 (.pointer (some a))).run Try.prog W = .ok (.map m) W := by simp [Instr.loadAt, go_sem, h]
theorem ld_int {z : Int} (h : W.cell? a = some (.int .i64 z)) : (Instr.loadAt 3 (.pointer (some a))).run Try.prog W = .ok (.int .i64 z) W := by simp [Instr.loadAt, go_sem, h]
end
theorem ex_ixE {o : Oper} {a : Act} {W : World} (p q : Operand) (hop : o.op = Op.indexAddr 62 p q) {g len c j : Nat} (hp : a.eval p = .slice (some ⟨g, 0, none⟩) len c) (hq : a.eval q = .int .i64 j) (hj : j < len) : (execOp a.eval o).run Try.prog W = .ok (.value (.pointer (some ⟨g, j, none⟩))) W := by
  have hs : (Instr.indexAt 62 (.slice (some ⟨g, 0, none⟩) len c) (.int .i64 j)).run Try.prog W = .ok (.pointer (some ⟨g, j, none⟩)) W := by
    simp [Instr.indexAt, go_sem, hj]
  generalize a.eval = ev at *
  simp [execOp, hop, hp, hq, hs, Result.andThen]
theorem ex_gtrP {o : Oper} {a : Act} {W : World} (p q : Operand) {t : TypeId} (hop : o.op = Op.binOp .gtr 3 p q t) {x y : Int} (hp : a.eval p = .int .i64 x) (hq : a.eval q = .int .i64 y) : (execOp a.eval o).run Try.prog W = .ok (.value (.bool (decide (x > y)))) W := by
  generalize a.eval = ev at *
  simp [execOp, hop, hp, hq, go_sem]
theorem ex_geqP {o : Oper} {a : Act} {W : World} (p q : Operand) {t : TypeId} (hop : o.op = Op.binOp .geq 3 p q t) {x y : Int} (hp : a.eval p = .int .i64 x) (hq : a.eval q = .int .i64 y) : (execOp a.eval o).run Try.prog W = .ok (.value (.bool (decide (x ≥ y)))) W := by
  generalize a.eval = ev at *
  simp [execOp, hop, hp, hq, go_sem]
set_option maxHeartbeats 8000000 in
set_option maxRecDepth 100000 in
theorem over_calls {V : World} {pb mb b1 b2 i : Nat} {cf : Cf} {now : Int} {line : Value} {L : List (PE × Nat)} {x : PE × Nat} (h : Paths pb cf now mb line L V) (h1 : V.heap[b1]? = some (.cells [Value.pointer (some ⟨pb, 0, none⟩)].toArray 50)) {t : Int} (h2 : V.heap[b2]? = some (.cells [Value.int .i64 t].toArray 3)) (hx : L[i]? = some x) :
    Calls Try.prog 39 #[.int .i64 (i : Int), .pointer (some ⟨b1, 0, none⟩), .pointer (some ⟨b2, 0, none⟩)] V fun e w' => e = .returned (.bool (decide (x.1.u > t))) ∧ Below V.heap.size V w' := by
  generalize hQ : (fun (e : Ending) (w' : World) => e = .returned (.bool (decide (x.1.u > t))) ∧ Below V.heap.size V w') = Q
  have HQ : Hid (∀ e w', (e = .returned (.bool (decide (x.1.u > t))) ∧ Below V.heap.size V w') → Q e w') := fun e w' hh => by rw [← hQ]; exact hh
  clear hQ
  obtain ⟨g, c, hline, _⟩ := h.at hx
  subst hline
  have hi := (List.getElem?_eq_some_iff.1 hx).1
  have hcell : ∀ X, Below V.heap.size V X → X.cell? ⟨g, i, none⟩ = some (.pointer (some ⟨x.2, 0, none⟩)) := fun X hX => by
    obtain ⟨g', c', e, hc⟩ := (h.on hX).at hx
    injection e with e1 e2 e3
    injection e1 with e1
    injection e1 with e1
    rw [e1]
    exact hc
  have hm := List.mem_of_getElem? hx
  go_enter Try.func39, Try.ntmps39
  go_wp2_with fail
  refine wp_region_held (S := fun X => Below V.heap.size V X) (by kernel_rfl) ?_
  show wpAnyH _ _ _ _ _ 13 (Array.replicate 13 false) _ V.drew
  have s0 : Below V.heap.size V V.drew := (Below.refl _ V).drew
  generalize V.drew = V0 at *
  refine take_one (i := 0) (d := some 5) (v := .pointer (some ⟨pb, 0, none⟩)) rfl rfl rfl (by kernel_rfl) (by kernel_rfl) (by kernel_rfl) (fun _ _ d _ _ h => by cases d <;> exact h) (fun W hS => ex_loadA (.tmp 1) 50 rfl rfl (ld_pp (blk_cell (j := 0) ((hS.block _ (Array.getElem?_eq_some_iff.1 h1).1).trans h1) rfl))) s0 ?_
  simp only [Act.put, List.setIfInBounds_toArray, List.set_cons_zero, List.set_cons_succ]
  refine take_one (i := 1) (d := some 6) (v := .pointer (some ⟨pb, 0, none⟩)) rfl rfl rfl (by kernel_rfl) (by kernel_rfl) (by kernel_rfl) (fun _ _ d _ _ h => by cases d <;> exact h) (fun W hS => by kernel_rfl) s0 ?_
  simp only [Act.put, List.setIfInBounds_toArray, List.set_cons_zero, List.set_cons_succ]
  refine take_one (i := 2) (d := some 7) (v := .pointer (some ⟨pb, 6, none⟩)) rfl rfl rfl (by kernel_rfl) (by kernel_rfl) (by kernel_rfl) (fun _ _ d _ _ h => by cases d <;> exact h) (fun W hS => by kernel_rfl) s0 ?_
  simp only [Act.put, List.setIfInBounds_toArray, List.set_cons_zero, List.set_cons_succ]
  refine take_one (i := 3) (d := some 8) (v := .slice (some ⟨g, 0, none⟩) L.length c) rfl rfl rfl (by kernel_rfl) (by kernel_rfl) (by kernel_rfl) (fun _ _ d _ _ h => by cases d <;> exact h) (fun W hS => ex_loadA (.tmp 7) 62 rfl rfl (ld_row ((h.on hS).cell 6 _ rfl))) s0 ?_
  simp only [Act.put, List.setIfInBounds_toArray, List.set_cons_zero, List.set_cons_succ]
  refine take_one (i := 4) (d := some 9) (v := .int .i64 (i : Int)) rfl rfl rfl (by kernel_rfl) (by kernel_rfl) (by kernel_rfl) (fun _ _ d _ _ h => by cases d <;> exact h) (fun W hS => by kernel_rfl) s0 ?_
  simp only [Act.put, List.setIfInBounds_toArray, List.set_cons_zero, List.set_cons_succ]
  refine take_one (i := 5) (d := some 10) (v := .pointer (some ⟨g, i, none⟩)) rfl rfl rfl (by kernel_rfl) (by kernel_rfl) (by kernel_rfl) (fun _ _ d _ _ h => by cases d <;> exact h) (fun W hS => ex_ixE (.tmp 8) (.tmp 9) rfl rfl rfl hi) s0 ?_
  simp only [Act.put, List.setIfInBounds_toArray, List.set_cons_zero, List.set_cons_succ]
  refine take_one (i := 6) (d := some 11) (v := .pointer (some ⟨x.2, 0, none⟩)) rfl rfl rfl (by kernel_rfl) (by kernel_rfl) (by kernel_rfl) (fun _ _ d _ _ h => by cases d <;> exact h) (fun W hS => ex_loadA (.tmp 10) 74 rfl rfl (ld_pe (hcell _ hS))) s0 ?_
  simp only [Act.put, List.setIfInBounds_toArray, List.set_cons_zero, List.set_cons_succ]
  refine take_one (i := 7) (d := some 12) (v := .pointer (some ⟨x.2, 0, none⟩)) rfl rfl rfl (by kernel_rfl) (by kernel_rfl) (by kernel_rfl) (fun _ _ d _ _ h => by cases d <;> exact h) (fun W hS => by kernel_rfl) s0 ?_
  simp only [Act.put, List.setIfInBounds_toArray, List.set_cons_zero, List.set_cons_succ]
  refine take_one (i := 8) (d := some 13) (v := .pointer (some ⟨x.2, 17, none⟩)) rfl rfl rfl (by kernel_rfl) (by kernel_rfl) (by kernel_rfl) (fun _ _ d _ _ h => by cases d <;> exact h) (fun W hS => by kernel_rfl) s0 ?_
  simp only [Act.put, List.setIfInBounds_toArray, List.set_cons_zero, List.set_cons_succ]
  refine take_one (i := 9) (d := some 14) (v := .int .i64 x.1.u) rfl rfl rfl (by kernel_rfl) (by kernel_rfl) (by kernel_rfl) (fun _ _ d _ _ h => by cases d <;> exact h) (fun W hS => ex_loadA (.tmp 13) 3 rfl rfl (ld_int (((h.on hS).ents x hm).2.til (h.ents x hm).1.2))) s0 ?_
  simp only [Act.put, List.setIfInBounds_toArray, List.set_cons_zero, List.set_cons_succ]
  refine take_one (i := 10) (d := some 15) (v := .int .i64 t) rfl rfl rfl (by kernel_rfl) (by kernel_rfl) (by kernel_rfl) (fun _ _ d _ _ h => by cases d <;> exact h) (fun W hS => ex_loadA (.tmp 2) 3 rfl rfl (ld_int (blk_cell (j := 0) ((hS.block _ (Array.getElem?_eq_some_iff.1 h2).1).trans h2) rfl))) s0 ?_
  simp only [Act.put, List.setIfInBounds_toArray, List.set_cons_zero, List.set_cons_succ]
  refine take_one (i := 11) (d := some 16) (v := .bool (decide (x.1.u > t))) rfl rfl rfl (by kernel_rfl) (by kernel_rfl) (by kernel_rfl) (fun _ _ d _ _ h => by cases d <;> exact h) (fun W hS => ex_gtrP (.tmp 14) (.tmp 15) rfl rfl rfl) s0 ?_
  simp only [Act.put, List.setIfInBounds_toArray, List.set_cons_zero, List.set_cons_succ]
  refine take_one (i := 12) (d := some 4) (v := .bool (decide (x.1.u > t))) rfl rfl rfl (by kernel_rfl) (by kernel_rfl) (by kernel_rfl) (fun _ _ d _ _ h => by cases d <;> exact h) (fun W hS => by kernel_rfl) s0 ?_
  simp only [Act.put, List.setIfInBounds_toArray, List.set_cons_zero, List.set_cons_succ]
  refine wpAnyH_done (by kernel_rfl) ?_ _
  try go_returns
  first
  | exact HQ.out _ _ ⟨rfl, s0⟩
  | (go_wp2_with fail
     try go_returns
     exact HQ.out _ _ ⟨rfl, s0⟩)
set_option maxHeartbeats 8000000 in
set_option maxRecDepth 100000 in
theorem place1_calls {V : World} {pb mb b1 b2 i : Nat} {cf : Cf} {now : Int} {line : Value} {L : List (PE × Nat)} {x : PE × Nat} (h : Paths pb cf now mb line L V) (h1 : V.heap[b1]? = some (.cells [Value.pointer (some ⟨pb, 0, none⟩)].toArray 50)) {y : PE × Nat} (h2 : V.heap[b2]? = some (.cells [Value.pointer (some ⟨y.2, 0, none⟩)].toArray 74)) (hy : y.1.Ok ∧ PE.At V y) (hx : L[i]? = some x) :
    Calls Try.prog 49 #[.int .i64 (i : Int), .pointer (some ⟨b1, 0, none⟩), .pointer (some ⟨b2, 0, none⟩)] V fun e w' => e = .returned (.bool (decide (cmpE x.1.u x.1.k y.1.u y.1.k ≥ 0))) ∧ Below V.heap.size V w' := by
  generalize hQ : (fun (e : Ending) (w' : World) => e = .returned (.bool (decide (cmpE x.1.u x.1.k y.1.u y.1.k ≥ 0))) ∧ Below V.heap.size V w') = Q
  have HQ : Hid (∀ e w', (e = .returned (.bool (decide (cmpE x.1.u x.1.k y.1.u y.1.k ≥ 0))) ∧ Below V.heap.size V w') → Q e w') := fun e w' hh => by rw [← hQ]; exact hh
  clear hQ
  obtain ⟨g, c, hline, _⟩ := h.at hx
  subst hline
  have hi := (List.getElem?_eq_some_iff.1 hx).1
  have hcell : ∀ X, Below V.heap.size V X → X.cell? ⟨g, i, none⟩ = some (.pointer (some ⟨x.2, 0, none⟩)) := fun X hX => by
    obtain ⟨g', c', e, hc⟩ := (h.on hX).at hx
    injection e with e1 e2 e3
    injection e1 with e1
    injection e1 with e1
    rw [e1]
    exact hc
  have hm := List.mem_of_getElem? hx
  go_enter Try.func49, Try.ntmps49
  go_wp2_with fail
  refine wp_region_held (S := fun X => Below V.heap.size V X) (by kernel_rfl) ?_
  show wpAnyH _ _ _ _ _ 11 (Array.replicate 11 false) _ V.drew
  have s0 : Below V.heap.size V V.drew := (Below.refl _ V).drew
  generalize V.drew = V0 at *
  refine take_one (i := 0) (d := some 5) (v := .pointer (some ⟨pb, 0, none⟩)) rfl rfl rfl (by kernel_rfl) (by kernel_rfl) (by kernel_rfl) (fun _ _ d _ _ h => by cases d <;> exact h) (fun W hS => ex_loadA (.tmp 1) 50 rfl rfl (ld_pp (blk_cell (j := 0) ((hS.block _ (Array.getElem?_eq_some_iff.1 h1).1).trans h1) rfl))) s0 ?_
  simp only [Act.put, List.setIfInBounds_toArray, List.set_cons_zero, List.set_cons_succ]
  refine take_one (i := 1) (d := some 6) (v := .pointer (some ⟨pb, 0, none⟩)) rfl rfl rfl (by kernel_rfl) (by kernel_rfl) (by kernel_rfl) (fun _ _ d _ _ h => by cases d <;> exact h) (fun W hS => by kernel_rfl) s0 ?_
  simp only [Act.put, List.setIfInBounds_toArray, List.set_cons_zero, List.set_cons_succ]
  refine take_one (i := 2) (d := some 7) (v := .pointer (some ⟨pb, 6, none⟩)) rfl rfl rfl (by kernel_rfl) (by kernel_rfl) (by kernel_rfl) (fun _ _ d _ _ h => by cases d <;> exact h) (fun W hS => by kernel_rfl) s0 ?_
  simp only [Act.put, List.setIfInBounds_toArray, List.set_cons_zero, List.set_cons_succ]
  refine take_one (i := 3) (d := some 8) (v := .slice (some ⟨g, 0, none⟩) L.length c) rfl rfl rfl (by kernel_rfl) (by kernel_rfl) (by kernel_rfl) (fun _ _ d _ _ h => by cases d <;> exact h) (fun W hS => ex_loadA (.tmp 7) 62 rfl rfl (ld_row ((h.on hS).cell 6 _ rfl))) s0 ?_
  simp only [Act.put, List.setIfInBounds_toArray, List.set_cons_zero, List.set_cons_succ]
  refine take_one (i := 4) (d := some 9) (v := .int .i64 (i : Int)) rfl rfl rfl (by kernel_rfl) (by kernel_rfl) (by kernel_rfl) (fun _ _ d _ _ h => by cases d <;> exact h) (fun W hS => by kernel_rfl) s0 ?_
  simp only [Act.put, List.setIfInBounds_toArray, List.set_cons_zero, List.set_cons_succ]
  refine take_one (i := 5) (d := some 10) (v := .pointer (some ⟨g, i, none⟩)) rfl rfl rfl (by kernel_rfl) (by kernel_rfl) (by kernel_rfl) (fun _ _ d _ _ h => by cases d <;> exact h) (fun W hS => ex_ixE (.tmp 8) (.tmp 9) rfl rfl rfl hi) s0 ?_
  simp only [Act.put, List.setIfInBounds_toArray, List.set_cons_zero, List.set_cons_succ]
  refine take_one (i := 6) (d := some 11) (v := .pointer (some ⟨x.2, 0, none⟩)) rfl rfl rfl (by kernel_rfl) (by kernel_rfl) (by kernel_rfl) (fun _ _ d _ _ h => by cases d <;> exact h) (fun W hS => ex_loadA (.tmp 10) 74 rfl rfl (ld_pe (hcell _ hS))) s0 ?_
  simp only [Act.put, List.setIfInBounds_toArray, List.set_cons_zero, List.set_cons_succ]
  refine take_one (i := 7) (d := some 12) (v := .pointer (some ⟨y.2, 0, none⟩)) rfl rfl rfl (by kernel_rfl) (by kernel_rfl) (by kernel_rfl) (fun _ _ d _ _ h => by cases d <;> exact h) (fun W hS => ex_loadA (.tmp 2) 74 rfl rfl (ld_pe (blk_cell (j := 0) ((hS.block _ (Array.getElem?_eq_some_iff.1 h2).1).trans h2) rfl))) s0 ?_
  simp only [Act.put, List.setIfInBounds_toArray, List.set_cons_zero, List.set_cons_succ]
  refine all_one (i := 8) (by kernel_rfl) rfl rfl ?_
  refine wp_call (d := some 13) 50 _ rfl (by kernel_rfl) (callR (order_any (h.ents x hm).1.1 (h.ents x hm).1.2 hy.1.1 hy.1.2 ((h.on s0).ents x hm).2 (hy.2.on (s0.block _ hy.2.lt)))) ?_
  rintro _ X1 ⟨rfl, hb1⟩
  have s1 : Below V.heap.size V X1 := s0.trans (hb1.mono s0.size)
  refine ⟨s1, ?_⟩
  simp only [Act.put, List.setIfInBounds_toArray, List.set_cons_zero, List.set_cons_succ]
  refine take_one (i := 9) (d := some 14) (v := .bool (decide (cmpE x.1.u x.1.k y.1.u y.1.k ≥ 0))) rfl rfl rfl (by kernel_rfl) (by kernel_rfl) (by kernel_rfl) (fun _ _ d _ _ h => by cases d <;> exact h) (fun W hS => ex_geqP (.tmp 13) (.const (.int .i64 0)) rfl rfl rfl) s1 ?_
  simp only [Act.put, List.setIfInBounds_toArray, List.set_cons_zero, List.set_cons_succ]
  refine take_one (i := 10) (d := some 4) (v := .bool (decide (cmpE x.1.u x.1.k y.1.u y.1.k ≥ 0))) rfl rfl rfl (by kernel_rfl) (by kernel_rfl) (by kernel_rfl) (fun _ _ d _ _ h => by cases d <;> exact h) (fun W hS => by kernel_rfl) s1 ?_
  simp only [Act.put, List.setIfInBounds_toArray, List.set_cons_zero, List.set_cons_succ]
  refine wpAnyH_done (by kernel_rfl) ?_ _
  try go_returns
  first
  | exact HQ.out _ _ ⟨rfl, s1⟩
  | (go_wp2_with fail
     try go_returns
     exact HQ.out _ _ ⟨rfl, s1⟩)
end Go.Proofs.Ytgndiblonhgihaa
