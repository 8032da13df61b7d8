/-
  The contracts of package sum's Pseudo4, Pseudo6 and of the document's answers for them.
-/
import Derived.Test.YtnlaomjhnndblaaFoldRef
import Derived.Deep.RegionLaw
namespace Go.Proofs.Ytnlaomjhnndblaa
open Go Go.RowKit Go.Shelf

set_option maxHeartbeats 400000 in
theorem fits_calls (n : Int) (w : World) : Calls Try.prog 86 #[.int .i64 n] w fun e w' => e = .returned (.bool (decide (0 ≤ n ∧ n ≤ 65535))) ∧ w' = w := by
  by_cases h1 : 0 ≤ n
  · by_cases h2 : n ≤ 65535
    · rw [show decide (0 ≤ n ∧ n ≤ 65535) = true from decide_eq_true ⟨h1, h2⟩]
      go_enter Try.func86, Try.ntmps86
      go_wp2
      go_ret
      exact ⟨ret_bool (by simp), rfl⟩
    · rw [show decide (0 ≤ n ∧ n ≤ 65535) = false from decide_eq_false (fun h => h2 h.2)]
      go_enter Try.func86, Try.ntmps86
      go_wp2
      go_ret
      exact ⟨ret_bool (by simp), rfl⟩
  · have hd : decide (0 ≤ n) = false := decide_eq_false h1
    rw [show decide (0 ≤ n ∧ n ≤ 65535) = false from decide_eq_false (fun h => h1 h.1)]
    go_enter Try.func86, Try.ntmps86
    go_wp2
    go_ret
    exact ⟨rfl, rfl⟩

theorem fits_yes (n : Int) (h : 0 ≤ n ∧ n ≤ 65535) (w : World) : Calls Try.prog 86 #[.int .i64 n] w fun e w' => e = .returned (.bool true) ∧ w' = w :=
  (fits_calls n w).mono (fun _ _ hr => ⟨hr.1.trans (ret_bool (decide_eq_true h)), hr.2⟩)
theorem fits_no (n : Int) (h : ¬ (0 ≤ n ∧ n ≤ 65535)) (w : World) : Calls Try.prog 86 #[.int .i64 n] w fun e w' => e = .returned (.bool false) ∧ w' = w :=
  (fits_calls n w).mono (fun _ _ hr => ⟨hr.1.trans (ret_bool (decide_eq_false h)), hr.2⟩)

/-- A built-in append of which it is known what it leaves. -/
theorem wpList_append_ex {P : Program} {w : World} {ops : Array Oper} {rest : List Oper} {o : Oper} {a : Act} {Q : Exit → Act → World → Prop} {R : Value → World → Prop} (hg : o.guard = none) (s x : Operand) (t u : TypeId)
    (hop : o.op = Op.call { callee := Callee.builtin Builtin.append, args := #[s, x], argTypes := #[t, u] }) {vs vx : Value} (hs : a.eval s = vs) (hx : a.eval x = vx)
    (hex : ∃ v w2, (Builtin.append_ #[t, u] o.type #[vs, vx]).run P w = .ok v w2 ∧ R v w2) (hK : ∀ v w2, R v w2 → wpList P ops Q rest (a.put o.dst v) w2) : wpList P ops Q (o :: rest) a w := by
  obtain ⟨v, w2, hrun, hr⟩ := hex
  exact wpList_append_run hg s x t u hop hs hx hrun (hK v w2 hr)

/-- v holds the bytes zs in a row of one's own, made since W0. -/
structure Grow (W0 : World) (v : Value) (zs : List Int) (X : World) : Prop where
  own : X.ownsRow W0.heap.size 5 1 v zs.length (bytesV zs)
  below : Below W0.heap.size W0 X

theorem Grow.bytes {W0 X : World} {v : Value} {zs : List Int} (h : Grow W0 v zs X) (hf : Fit zs) (hl : zs.length ≤ 100000 := by simp) : BytesAt X.heap.size X v zs := own_bytes h.own hf (by omega)
theorem Fit.append {xs ys : List Int} (h : Fit xs) (k : Fit ys) : Fit (xs ++ ys) := fun z hz => (List.mem_append.1 hz).elim (h z) (k z)

theorem Grow.arr {W0 X : World} {v : Value} {zs ys : List Int} {a : Option Addr} {m c : Nat} (h : Grow W0 v zs X) (hb : BytesAt W0.heap.size W0 (.slice a m c) ys) (hn : zs.length + m ≤ 100000) (ty : TypeId) :
    ∃ v' X', (Builtin.append_ #[29, 29] ty #[v, .slice a m c]).run Try.prog X = .ok v' X' ∧ Grow W0 v' (zs ++ ys) X' := by
  have hm : ys.length = m := by obtain ⟨_, _, e, _⟩ := hb.val; cases e; rfl
  obtain ⟨v', X', h1, h2, h3⟩ := own_bytes_more h.own h.below.size (w0 := W0) (hb.below h.below) (by omega) ty
  refine ⟨v', X', h1, ⟨?_, h.below.grown h3 h.below.size (fun k hk => (h.own.lt k hk).1)⟩⟩
  rw [bytesV, List.map_append, List.length_append, hm]
  exact h2

theorem Grow.lit {W0 X : World} {v : Value} {zs : List Int} (h : Grow W0 v zs X) (ys : List Int) (us : Array Value) (hu : us = (bytesV ys).toArray) (hf : Fit ys) (hn : zs.length + ys.length ≤ 100000) (m : Nat) (hm : m = ys.length) (ty : TypeId) :
    ∃ v' X', (Builtin.append_ #[29, 29] ty #[v, .slice (some ⟨X.heap.size, 0, none⟩) m m]).run Try.prog (X.alloc (.cells us 5)) = .ok v' X' ∧ Grow W0 v' (zs ++ ys) X' := by
  have hb := bytes_new X 5 ys us m m (bytes_lit ys us hu) hm (by omega) hf
  have hsz := h.below.size
  have hB : Below W0.heap.size W0 (X.alloc (.cells us 5)) := h.below.alloc hsz _
  obtain ⟨v', X', h1, h2, h3⟩ := own_bytes_more (h.own.alloc (.cells us 5)) hB.size hb (by omega) ty
  refine ⟨v', X', h1, ⟨?_, hB.grown h3 hB.size (fun k hk => (h.own.lt k hk).1)⟩⟩
  rw [bytesV, List.map_append, List.length_append, ← hm]
  exact h2

theorem fit_len (n : Int) (hn : 0 ≤ n ∧ n ≤ 65535) : Fit [n / 256, n % 256] := by
  intro z hz
  simp at hz
  omega

set_option maxHeartbeats 1000000 in
set_option maxRecDepth 100000 in
theorem pseudo4_calls (a0 a1 a2 a3 b0 b1 b2 b3 p n : Int) (ha : Fit [a0, a1, a2, a3]) (hb : Fit [b0, b1, b2, b3]) (hp : 0 ≤ p ∧ p < 256) (hn : 0 ≤ n ∧ n ≤ 65535) (w : World) :
    Calls Try.prog 74 #[.agg #[.int .u8 a0, .int .u8 a1, .int .u8 a2, .int .u8 a3], .agg #[.int .u8 b0, .int .u8 b1, .int .u8 b2, .int .u8 b3], .int .u8 p, .int .i64 n] w fun e w' =>
      ∃ v, e = .returned (.tuple #[v, .int .i64 0]) ∧ BytesAt w'.heap.size w' v [a0, a1, a2, a3, b0, b1, b2, b3, 0, p, n / 256, n % 256] ∧ Below w.heap.size w w' := by
  obtain ⟨i, hi, hz, hs, hby⟩ := info_parts info_u8
  have h2 := bytes_two w 23 23 [a0, a1, a2, a3] [b0, b1, b2, b3] #[.int .u8 a0, .int .u8 a1, .int .u8 a2, .int .u8 a3] #[.int .u8 b0, .int .u8 b1, .int .u8 b2, .int .u8 b3] 4 4 rfl rfl rfl rfl (by decide) (by decide) ha hb
  have hB0 : Below w.heap.size w ((w.alloc (.cells #[.int .u8 a0, .int .u8 a1, .int .u8 a2, .int .u8 a3] 23)).alloc (.cells #[.int .u8 b0, .int .u8 b1, .int .u8 b2, .int .u8 b3] 23)) := ((Below.refl _ w).alloc (Nat.le_refl _) _).alloc (by simp) _
  go_enter Try.func74, Try.ntmps74
  go_wp2_with fail
  refine (fits_yes n hn _).mono ?_
  rintro e w' ⟨rfl, rfl⟩
  generalize (w.alloc (.cells #[.int .u8 a0, .int .u8 a1, .int .u8 a2, .int .u8 a3] 23)).alloc (.cells #[.int .u8 b0, .int .u8 b1, .int .u8 b2, .int .u8 b3] 23) = W0 at *
  obtain ⟨hS, hD⟩ := h2
  have HS : Hid _ := hS
  have HD : Hid _ := hD
  have HP : Hid (Fit [0, p]) := by
    intro z hz
    simp at hz
    omega
  have HP2 := HP
  have HN : Hid (Fit [n / 256, n % 256]) := fit_len n hn
  clear hS hD
  go_wp2_with (first
    | (at_make; refine wpList_make_own _ rfl _ _ _ rfl W0.heap.size 5 i (.int .u8 0) 1 Try.underlying29 hi hz hs .i64 .i64 12 12 rfl rfl rfl (by rw [hby]; decide) (by decide) (Nat.le_refl _) ?_; intro X hown hgr; have hG : Grow W0 _ [] X := ⟨hown, (Below.refl _ W0).grown hgr (Nat.le_refl _) (fun k hk => by cases hk)⟩; clear hown hgr)
    | (at_builtin; refine wpList_append_ex rfl _ _ _ _ rfl rfl rfl (hG.arr HS.out (by simp) _) ?_; clear HS hG; rintro v1 X1 hG1)
    | (at_builtin; refine wpList_append_ex rfl _ _ _ _ rfl rfl rfl (hG1.arr HD.out (by simp) _) ?_; clear HD hG1; rintro v2 X2 hG2)
    | (at_builtin; refine wpList_append_ex rfl _ _ _ _ rfl rfl rfl (hG2.lit [0, p] _ rfl HP.out (by simp) _ rfl _) ?_; clear HP hG2; rintro v3 X3 hG3)
    | (at_builtin; refine wpList_append_ex rfl _ _ _ _ rfl rfl rfl (hG3.lit [n / 256, n % 256] _ rfl HN.out (by simp) _ rfl _) ?_; clear HN hG3; rintro v4 X4 hG4))
  go_ret2
  refine ⟨v4, rfl, hG4.bytes (ha.append (hb.append (HP2.out.append (fit_len n hn)))), hB0.trans (hG4.below.mono hB0.size)⟩

/-- A built-in append of which it is known what it leaves, in a region that draws its order. -/
theorem step_append_ex {P : Program} {ops : Array Oper} {o : Oper} {a : Act} {w : World} {K : Act → World → Prop} {Q : Exit → Act → World → Prop} {E : Prop} {R : Value → World → Prop} (hg : o.guard = none) (s x : Operand) (t u : TypeId)
    (hop : o.op = Op.call { callee := Callee.builtin Builtin.append, args := #[s, x], argTypes := #[t, u] }) {vs vx : Value} (hs : a.eval s = vs) (hx : a.eval x = vx)
    (hex : ∃ v w2, (Builtin.append_ #[t, u] o.type #[vs, vx]).run P w = .ok v w2 ∧ R v w2) (hK : ∀ v w2, R v w2 → K (a.put o.dst v) w2) :
    if Region.wanted o (yielded ops a.tmps) = true then Oper.wp P o a w K Q else E := by
  have hw : Region.wanted o (yielded ops a.tmps) = true := by simp [Region.wanted, hg]
  rw [if_pos hw]
  obtain ⟨v, w2, hrun, hr⟩ := hex
  unfold Oper.wp
  simp [execOp, hop, resolve, invoke, builtin, hs, hx, hrun, Result.andThen]
  exact hK _ _ hr

theorem grow_start (W0 : World) : Grow W0 (.slice (some ⟨W0.heap.size, 0, none⟩) 0 0) [] (W0.alloc (.cells #[] 5)) :=
  ⟨⟨rfl, .inr ⟨W0.heap.size, 0, _, rfl, Nat.le_refl _, World.alloc_heap_new W0 _, Nat.le_refl _, by decide, rfl, rfl⟩⟩, (Below.refl _ W0).alloc (Nat.le_refl _) _⟩
theorem Grow.drew {W0 X : World} {v : Value} {zs : List Int} (h : Grow W0 v zs X) : Grow W0 v zs X.drew := ⟨h.own, h.below.drew⟩

set_option maxHeartbeats 1000000 in
set_option maxRecDepth 100000 in
theorem pseudo4_ref (a0 a1 a2 a3 b0 b1 b2 b3 p n : Int) (ha : Fit [a0, a1, a2, a3]) (hb : Fit [b0, b1, b2, b3]) (hp : 0 ≤ p ∧ p < 256) (hn : 0 ≤ n ∧ n ≤ 65535) (w : World) :
    Calls Try.prog 68 #[.agg #[.int .u8 a0, .int .u8 a1, .int .u8 a2, .int .u8 a3], .agg #[.int .u8 b0, .int .u8 b1, .int .u8 b2, .int .u8 b3], .int .u8 p, .int .i64 n] w fun e w' =>
      ∃ v, e = .returned (.tuple #[v, .int .i64 0]) ∧ BytesAt w'.heap.size w' v [a0, a1, a2, a3, b0, b1, b2, b3, 0, p, n / 256, n % 256] ∧ Below w.heap.size w w' := by
  have h2 := bytes_two w 22 22 [a0, a1, a2, a3] [b0, b1, b2, b3] #[.int .u8 a0, .int .u8 a1, .int .u8 a2, .int .u8 a3] #[.int .u8 b0, .int .u8 b1, .int .u8 b2, .int .u8 b3] 4 4 rfl rfl rfl rfl (by decide) (by decide) ha hb
  have hB0 : Below w.heap.size w ((w.alloc (.cells #[.int .u8 a0, .int .u8 a1, .int .u8 a2, .int .u8 a3] 22)).alloc (.cells #[.int .u8 b0, .int .u8 b1, .int .u8 b2, .int .u8 b3] 22)) := ((Below.refl _ w).alloc (Nat.le_refl _) _).alloc (by simp) _
  have hd0 : decide (n < 0) = false := decide_eq_false (by omega)
  have hd1 : decide (65535 < n) = false := decide_eq_false (by omega)
  go_enter Try.func68, Try.ntmps68
  go_wp2_with fail
  generalize (w.alloc (.cells #[.int .u8 a0, .int .u8 a1, .int .u8 a2, .int .u8 a3] 22)).alloc (.cells #[.int .u8 b0, .int .u8 b1, .int .u8 b2, .int .u8 b3] 22) = W0 at *
  obtain ⟨hS, hD⟩ := h2
  have HS : Hid _ := hS
  have HD : Hid _ := hD
  have HP : Hid (Fit [0, p, n / 256, n % 256]) := by
    intro z hz
    simp at hz
    omega
  clear hS hD
  have HP2 := HP
  go_region_law (first
    | (refine step_append_ex rfl _ _ _ _ rfl rfl rfl (Grow.arr (Grow.drew (grow_start _)) HS.out (by simp) _) ?_; intro v1 X1 hG1)
    | (refine step_append_ex rfl _ _ _ _ rfl rfl rfl (Grow.arr hG1 HD.out (by simp) _) ?_; intro v2 X2 hG2))
  go_wp2_with (at_builtin; refine wpList_append_ex rfl _ _ _ _ rfl rfl rfl (hG2.lit [0, p, n / 256, n % 256] _ rfl HP.out (by simp) _ rfl _) ?_; clear HP hG2; rintro v4 X4 hG4)
  go_ret2
  refine ⟨v4, rfl, hG4.bytes (ha.append (hb.append HP2.out)), hB0.trans (hG4.below.mono hB0.size)⟩

end Go.Proofs.Ytnlaomjhnndblaa
