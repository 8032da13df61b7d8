/-
  The contracts of package sum's Pseudo4, Pseudo6 and of the document's answers for them.
  The contracts of package sum's Pseudo6 and of the document's answer for it.
  Words as bytes; slices.Grow; wordBytes, putWord, neverZero of package segment.
-/
import Derived.Test.YtpgnnplpcalbbaaGreatFold05
import Derived.Deep.RegionLaw
import Derived.Lib.AppendZerosOnto
set_option linter.unusedVariables false
set_option linter.unusedSimpArgs false
namespace Go.Proofs.YtpgnnplpcalbbaaGreat
open Go Go.RowKit Go.Shelf
set_option maxHeartbeats 400000 in
theorem fits_calls (n : Int) (w : World) : Calls Tryz.prog 263 #[.int .i64 n] w fun e w' => e = .returned (.bool (decide (0 ≤ n ∧ n ≤ 65535))) ∧ w' = w := by
  by_cases h1 : 0 ≤ n
  · by_cases h2 : n ≤ 65535
    · rw [show decide (0 ≤ n ∧ n ≤ 65535) = true from decide_eq_true ⟨h1, h2⟩]
      go_enter Tryz.func263, Tryz.ntmps263
      go_wp2
      go_ret
      exact ⟨ret_bool (by simp), rfl⟩
    · rw [show decide (0 ≤ n ∧ n ≤ 65535) = false from decide_eq_false (fun h => h2 h.2)]
      go_enter Tryz.func263, Tryz.ntmps263
      go_wp2
      go_ret
      exact ⟨ret_bool (by simp), rfl⟩
  · have hd : decide (0 ≤ n) = false := decide_eq_false h1
    rw [show decide (0 ≤ n ∧ n ≤ 65535) = false from decide_eq_false (fun h => h1 h.1)]
    go_enter Tryz.func263, Tryz.ntmps263
    go_wp2
    go_ret
    exact ⟨rfl, rfl⟩
theorem fits_yes (n : Int) (h : 0 ≤ n ∧ n ≤ 65535) (w : World) : Calls Tryz.prog 263 #[.int .i64 n] w fun e w' => e = .returned (.bool true) ∧ w' = w :=
  (fits_calls n w).mono (fun _ _ hr => ⟨hr.1.trans (ret_bool (decide_eq_true h)), hr.2⟩)
theorem fits_no (n : Int) (h : ¬ (0 ≤ n ∧ n ≤ 65535)) (w : World) : Calls Tryz.prog 263 #[.int .i64 n] w fun e w' => e = .returned (.bool false) ∧ w' = w :=
  (fits_calls n w).mono (fun _ _ hr => ⟨hr.1.trans (ret_bool (decide_eq_false h)), hr.2⟩)
/-- A built-in append of which it is known what it leaves. -/
theorem wpList_append_ex {P : Program} {w : World} {ops : Array Oper} {rest : List Oper} {o : Oper} {a : Act} {Q : Exit → Act → World → Prop} {R : Value → World → Prop} (hg : o.guard = none) (s x : Operand) (t u : TypeId)
    (hop : o.op = Op.call { callee := Callee.builtin Builtin.append, args := #[s, x], argTypes := #[t, u] }) {vs vx : Value} (hs : a.eval s = vs) (hx : a.eval x = vx)
    (hex : ∃ v w2, (Builtin.append_ #[t, u] o.type #[vs, vx]).run P w = .ok v w2 ∧ R v w2) (hK : ∀ v w2, R v w2 → wpList P ops Q rest (a.put o.dst v) w2) : wpList P ops Q (o :: rest) a w := by
  obtain ⟨v, w2, hrun, hr⟩ := hex
  exact wpList_append_run hg s x t u hop hs hx hrun (hK v w2 hr)
/-- v holds the bytes zs in a row of one's own, made since W0. -/
structure Grow (W0 : World) (v : Value) (zs : List Int) (X : World) : Prop where
  own : X.ownsRow W0.heap.size 5 1 v zs.length (bytesV zs)
  below : Below W0.heap.size W0 X
theorem Grow.bytes {W0 X : World} {v : Value} {zs : List Int} (h : Grow W0 v zs X) (hf : Fit zs) (hl : zs.length ≤ 100000 := by simp) : BytesAt X.heap.size X v zs := own_bytes h.own hf (by omega)
theorem Fit.append {xs ys : List Int} (h : Fit xs) (k : Fit ys) : Fit (xs ++ ys) := fun z hz => (List.mem_append.1 hz).elim (h z) (k z)
theorem Grow.arr {W0 X : World} {v : Value} {zs ys : List Int} {a : Option Addr} {m c : Nat} (h : Grow W0 v zs X) (hb : BytesAt W0.heap.size W0 (.slice a m c) ys) (hn : zs.length + m ≤ 100000) (ty : TypeId) :
    ∃ v' X', (Builtin.append_ #[25, 25] ty #[v, .slice a m c]).run Tryz.prog X = .ok v' X' ∧ Grow W0 v' (zs ++ ys) X' := by
  have hm : ys.length = m := by obtain ⟨_, _, e, _⟩ := hb.val; cases e; rfl
  obtain ⟨v', X', h1, h2, h3⟩ := own_bytes_more h.own h.below.size (w0 := W0) (hb.below h.below) (by omega) ty
  refine ⟨v', X', h1, ⟨?_, h.below.grown h3 h.below.size (fun k hk => (h.own.lt k hk).1)⟩⟩
  rw [bytesV, List.map_append, List.length_append, hm]
  exact h2
theorem Grow.lit {W0 X : World} {v : Value} {zs : List Int} (h : Grow W0 v zs X) (ys : List Int) (us : Array Value) (hu : us = (bytesV ys).toArray) (hf : Fit ys) (hn : zs.length + ys.length ≤ 100000) (m : Nat) (hm : m = ys.length) (ty : TypeId) :
    ∃ v' X', (Builtin.append_ #[25, 25] ty #[v, .slice (some ⟨X.heap.size, 0, none⟩) m m]).run Tryz.prog (X.alloc (.cells us 5)) = .ok v' X' ∧ Grow W0 v' (zs ++ ys) X' := by
  have hb := bytes_new X 5 ys us m m (bytes_lit ys us hu) hm (by omega) hf
  have hsz := h.below.size
  have hB : Below W0.heap.size W0 (X.alloc (.cells us 5)) := h.below.alloc hsz _
  obtain ⟨v', X', h1, h2, h3⟩ := own_bytes_more (h.own.alloc (.cells us 5)) hB.size hb (by omega) ty
  refine ⟨v', X', h1, ⟨?_, hB.grown h3 hB.size (fun k hk => (h.own.lt k hk).1)⟩⟩
  rw [bytesV, List.map_append, List.length_append, ← hm]
  exact h2
theorem fit_len (n : Int) (hn : 0 ≤ n ∧ n ≤ 65535) : Fit [n / 256, n % 256] := by
  intro z hz
  simp at hz
  omega
set_option maxHeartbeats 1000000 in
set_option maxRecDepth 100000 in
theorem pseudo4_calls (a0 a1 a2 a3 b0 b1 b2 b3 p n : Int) (ha : Fit [a0, a1, a2, a3]) (hb : Fit [b0, b1, b2, b3]) (hp : 0 ≤ p ∧ p < 256) (hn : 0 ≤ n ∧ n ≤ 65535) (w : World) :
    Calls Tryz.prog 266 #[.agg #[.int .u8 a0, .int .u8 a1, .int .u8 a2, .int .u8 a3], .agg #[.int .u8 b0, .int .u8 b1, .int .u8 b2, .int .u8 b3], .int .u8 p, .int .i64 n] w fun e w' =>
      ∃ v, e = .returned (.tuple #[v, .int .i64 0]) ∧ BytesAt w'.heap.size w' v [a0, a1, a2, a3, b0, b1, b2, b3, 0, p, n / 256, n % 256] ∧ Below w.heap.size w w' := by
  obtain ⟨i, hi, hz, hs, hby⟩ := info_parts info_u8
  have h2 := bytes_two w 24 24 [a0, a1, a2, a3] [b0, b1, b2, b3] #[.int .u8 a0, .int .u8 a1, .int .u8 a2, .int .u8 a3] #[.int .u8 b0, .int .u8 b1, .int .u8 b2, .int .u8 b3] 4 4 rfl rfl rfl rfl (by decide) (by decide) ha hb
  have hB0 : Below w.heap.size w ((w.alloc (.cells #[.int .u8 a0, .int .u8 a1, .int .u8 a2, .int .u8 a3] 24)).alloc (.cells #[.int .u8 b0, .int .u8 b1, .int .u8 b2, .int .u8 b3] 24)) := ((Below.refl _ w).alloc (Nat.le_refl _) _).alloc (by simp) _
  go_enter Tryz.func266, Tryz.ntmps266
  go_wp2_with fail
  refine (fits_yes n hn _).mono ?_
  rintro e w' ⟨rfl, rfl⟩
  generalize (w.alloc (.cells #[.int .u8 a0, .int .u8 a1, .int .u8 a2, .int .u8 a3] 24)).alloc (.cells #[.int .u8 b0, .int .u8 b1, .int .u8 b2, .int .u8 b3] 24) = W0 at *
  obtain ⟨hS, hD⟩ := h2
  have HS : Hid _ := hS
  have HD : Hid _ := hD
  have HP : Hid (Fit [0, p]) := by
    intro z hz
    simp at hz
    omega
  have HP2 := HP
  have HN : Hid (Fit [n / 256, n % 256]) := fit_len n hn
  clear hS hD
  go_wp2_with (first
    | (at_make; refine wpList_make_own _ rfl _ _ _ rfl W0.heap.size 5 i (.int .u8 0) 1 Tryz.underlying25 hi hz hs .i64 .i64 12 12 rfl rfl rfl (by rw [hby]; decide) (by decide) (Nat.le_refl _) ?_; intro X hown hgr; have hG : Grow W0 _ [] X := ⟨hown, (Below.refl _ W0).grown hgr (Nat.le_refl _) (fun k hk => by cases hk)⟩; clear hown hgr)
    | (at_builtin; refine wpList_append_ex rfl _ _ _ _ rfl rfl rfl (hG.arr HS.out (by simp) _) ?_; clear HS hG; rintro v1 X1 hG1)
    | (at_builtin; refine wpList_append_ex rfl _ _ _ _ rfl rfl rfl (hG1.arr HD.out (by simp) _) ?_; clear HD hG1; rintro v2 X2 hG2)
    | (at_builtin; refine wpList_append_ex rfl _ _ _ _ rfl rfl rfl (hG2.lit [0, p] _ rfl HP.out (by simp) _ rfl _) ?_; clear HP hG2; rintro v3 X3 hG3)
    | (at_builtin; refine wpList_append_ex rfl _ _ _ _ rfl rfl rfl (hG3.lit [n / 256, n % 256] _ rfl HN.out (by simp) _ rfl _) ?_; clear HN hG3; rintro v4 X4 hG4))
  go_ret2
  refine ⟨v4, rfl, hG4.bytes (ha.append (hb.append (HP2.out.append (fit_len n hn)))), hB0.trans (hG4.below.mono hB0.size)⟩
/-- A built-in append of which it is known what it leaves, in a region that draws its order. -/
theorem step_append_ex {P : Program} {ops : Array Oper} {o : Oper} {a : Act} {w : World} {K : Act → World → Prop} {Q : Exit → Act → World → Prop} {E : Prop} {R : Value → World → Prop} (hg : o.guard = none) (s x : Operand) (t u : TypeId)
    (hop : o.op = Op.call { callee := Callee.builtin Builtin.append, args := #[s, x], argTypes := #[t, u] }) {vs vx : Value} (hs : a.eval s = vs) (hx : a.eval x = vx)
    (hex : ∃ v w2, (Builtin.append_ #[t, u] o.type #[vs, vx]).run P w = .ok v w2 ∧ R v w2) (hK : ∀ v w2, R v w2 → K (a.put o.dst v) w2) :
    if Region.wanted o (yielded ops a.tmps) = true then Oper.wp P o a w K Q else E := by
  have hw : Region.wanted o (yielded ops a.tmps) = true := by simp [Region.wanted, hg]
  rw [if_pos hw]
  obtain ⟨v, w2, hrun, hr⟩ := hex
  unfold Oper.wp
  simp [execOp, hop, resolve, invoke, builtin, hs, hx, hrun, Result.andThen]
  exact hK _ _ hr
theorem grow_start (W0 : World) : Grow W0 (.slice (some ⟨W0.heap.size, 0, none⟩) 0 0) [] (W0.alloc (.cells #[] 5)) :=
  ⟨⟨rfl, .inr ⟨W0.heap.size, 0, _, rfl, Nat.le_refl _, World.alloc_heap_new W0 _, Nat.le_refl _, by decide, rfl, rfl⟩⟩, (Below.refl _ W0).alloc (Nat.le_refl _) _⟩
theorem Grow.drew {W0 X : World} {v : Value} {zs : List Int} (h : Grow W0 v zs X) : Grow W0 v zs X.drew := ⟨h.own, h.below.drew⟩
set_option maxHeartbeats 1000000 in
set_option maxRecDepth 100000 in
theorem pseudo4_ref (a0 a1 a2 a3 b0 b1 b2 b3 p n : Int) (ha : Fit [a0, a1, a2, a3]) (hb : Fit [b0, b1, b2, b3]) (hp : 0 ≤ p ∧ p < 256) (hn : 0 ≤ n ∧ n ≤ 65535) (w : World) :
    Calls Tryz.prog 86 #[.agg #[.int .u8 a0, .int .u8 a1, .int .u8 a2, .int .u8 a3], .agg #[.int .u8 b0, .int .u8 b1, .int .u8 b2, .int .u8 b3], .int .u8 p, .int .i64 n] w fun e w' =>
      ∃ v, e = .returned (.tuple #[v, .int .i64 0]) ∧ BytesAt w'.heap.size w' v [a0, a1, a2, a3, b0, b1, b2, b3, 0, p, n / 256, n % 256] ∧ Below w.heap.size w w' := by
  have h2 := bytes_two w 23 23 [a0, a1, a2, a3] [b0, b1, b2, b3] #[.int .u8 a0, .int .u8 a1, .int .u8 a2, .int .u8 a3] #[.int .u8 b0, .int .u8 b1, .int .u8 b2, .int .u8 b3] 4 4 rfl rfl rfl rfl (by decide) (by decide) ha hb
  have hB0 : Below w.heap.size w ((w.alloc (.cells #[.int .u8 a0, .int .u8 a1, .int .u8 a2, .int .u8 a3] 23)).alloc (.cells #[.int .u8 b0, .int .u8 b1, .int .u8 b2, .int .u8 b3] 23)) := ((Below.refl _ w).alloc (Nat.le_refl _) _).alloc (by simp) _
  have hd0 : decide (n < 0) = false := decide_eq_false (by omega)
  have hd1 : decide (65535 < n) = false := decide_eq_false (by omega)
  go_enter Tryz.func86, Tryz.ntmps86
  go_wp2_with fail
  generalize (w.alloc (.cells #[.int .u8 a0, .int .u8 a1, .int .u8 a2, .int .u8 a3] 23)).alloc (.cells #[.int .u8 b0, .int .u8 b1, .int .u8 b2, .int .u8 b3] 23) = W0 at *
  obtain ⟨hS, hD⟩ := h2
  have HS : Hid _ := hS
  have HD : Hid _ := hD
  have HP : Hid (Fit [0, p, n / 256, n % 256]) := by
    intro z hz
    simp at hz
    omega
  clear hS hD
  have HP2 := HP
  go_region_law (first
    | (refine step_append_ex rfl _ _ _ _ rfl rfl rfl (Grow.arr (Grow.drew (grow_start _)) HS.out (by simp) _) ?_; intro v1 X1 hG1)
    | (refine step_append_ex rfl _ _ _ _ rfl rfl rfl (Grow.arr hG1 HD.out (by simp) _) ?_; intro v2 X2 hG2))
  go_wp2_with (at_builtin; refine wpList_append_ex rfl _ _ _ _ rfl rfl rfl (hG2.lit [0, p, n / 256, n % 256] _ rfl HP.out (by simp) _ rfl _) ?_; clear HP hG2; rintro v4 X4 hG4)
  go_ret2
  refine ⟨v4, rfl, hG4.bytes (ha.append (hb.append HP2.out)), hB0.trans (hG4.below.mono hB0.size)⟩
end Go.Proofs.YtpgnnplpcalbbaaGreat
namespace Go.Proofs.YtpgnnplpcalbbaaGreat
open Go Go.RowKit Go.Shelf
set_option maxRecDepth 10000 in
set_option maxHeartbeats 2000000 in
theorem pseudo6_calls (a0 a1 a2 a3 a4 a5 a6 a7 a8 a9 a10 a11 a12 a13 a14 a15 b0 b1 b2 b3 b4 b5 b6 b7 b8 b9 b10 b11 b12 b13 b14 b15 p n : Int) (ha : Fit [a0, a1, a2, a3, a4, a5, a6, a7, a8, a9, a10, a11, a12, a13, a14, a15]) (hb : Fit [b0, b1, b2, b3, b4, b5, b6, b7, b8, b9, b10, b11, b12, b13, b14, b15]) (hp : 0 ≤ p ∧ p < 256) (hn : 0 ≤ n ∧ n ≤ 65535) (w : World) :
    Calls Tryz.prog 232 #[.agg #[.int .u8 a0, .int .u8 a1, .int .u8 a2, .int .u8 a3, .int .u8 a4, .int .u8 a5, .int .u8 a6, .int .u8 a7, .int .u8 a8, .int .u8 a9, .int .u8 a10, .int .u8 a11, .int .u8 a12, .int .u8 a13, .int .u8 a14, .int .u8 a15], .agg #[.int .u8 b0, .int .u8 b1, .int .u8 b2, .int .u8 b3, .int .u8 b4, .int .u8 b5, .int .u8 b6, .int .u8 b7, .int .u8 b8, .int .u8 b9, .int .u8 b10, .int .u8 b11, .int .u8 b12, .int .u8 b13, .int .u8 b14, .int .u8 b15], .int .u8 p, .int .i64 n] w fun e w' =>
      ∃ v, e = .returned (.tuple #[v, .int .i64 0]) ∧ BytesAt w'.heap.size w' v [a0, a1, a2, a3, a4, a5, a6, a7, a8, a9, a10, a11, a12, a13, a14, a15, b0, b1, b2, b3, b4, b5, b6, b7, b8, b9, b10, b11, b12, b13, b14, b15, 0, 0, n / 256, n % 256, 0, 0, 0, p] ∧ Below w.heap.size w w' := by
  obtain ⟨i, hi, hz, hs, hby⟩ := info_parts info_u8
  have h2 := bytes_two w 29 29 [a0, a1, a2, a3, a4, a5, a6, a7, a8, a9, a10, a11, a12, a13, a14, a15] [b0, b1, b2, b3, b4, b5, b6, b7, b8, b9, b10, b11, b12, b13, b14, b15] #[.int .u8 a0, .int .u8 a1, .int .u8 a2, .int .u8 a3, .int .u8 a4, .int .u8 a5, .int .u8 a6, .int .u8 a7, .int .u8 a8, .int .u8 a9, .int .u8 a10, .int .u8 a11, .int .u8 a12, .int .u8 a13, .int .u8 a14, .int .u8 a15] #[.int .u8 b0, .int .u8 b1, .int .u8 b2, .int .u8 b3, .int .u8 b4, .int .u8 b5, .int .u8 b6, .int .u8 b7, .int .u8 b8, .int .u8 b9, .int .u8 b10, .int .u8 b11, .int .u8 b12, .int .u8 b13, .int .u8 b14, .int .u8 b15] 16 16 rfl rfl rfl rfl (by decide) (by decide) ha hb
  have hB0 : Below w.heap.size w ((w.alloc (.cells #[.int .u8 a0, .int .u8 a1, .int .u8 a2, .int .u8 a3, .int .u8 a4, .int .u8 a5, .int .u8 a6, .int .u8 a7, .int .u8 a8, .int .u8 a9, .int .u8 a10, .int .u8 a11, .int .u8 a12, .int .u8 a13, .int .u8 a14, .int .u8 a15] 29)).alloc (.cells #[.int .u8 b0, .int .u8 b1, .int .u8 b2, .int .u8 b3, .int .u8 b4, .int .u8 b5, .int .u8 b6, .int .u8 b7, .int .u8 b8, .int .u8 b9, .int .u8 b10, .int .u8 b11, .int .u8 b12, .int .u8 b13, .int .u8 b14, .int .u8 b15] 29)) := ((Below.refl _ w).alloc (Nat.le_refl _) _).alloc (by simp) _
  go_enter Tryz.func232, Tryz.ntmps232
  go_wp2_with fail
  refine (fits_yes n hn _).mono ?_
  rintro e w' ⟨rfl, rfl⟩
  generalize ((w.alloc (.cells #[.int .u8 a0, .int .u8 a1, .int .u8 a2, .int .u8 a3, .int .u8 a4, .int .u8 a5, .int .u8 a6, .int .u8 a7, .int .u8 a8, .int .u8 a9, .int .u8 a10, .int .u8 a11, .int .u8 a12, .int .u8 a13, .int .u8 a14, .int .u8 a15] 29)).alloc (.cells #[.int .u8 b0, .int .u8 b1, .int .u8 b2, .int .u8 b3, .int .u8 b4, .int .u8 b5, .int .u8 b6, .int .u8 b7, .int .u8 b8, .int .u8 b9, .int .u8 b10, .int .u8 b11, .int .u8 b12, .int .u8 b13, .int .u8 b14, .int .u8 b15] 29)) = W0 at *
  obtain ⟨hS, hD⟩ := h2
  have HS : Hid _ := hS
  have HD : Hid _ := hD
  have HP : Hid (Fit [0, 0, n / 256, n % 256]) := by
    intro z hz
    simp at hz
    omega
  have HN : Hid (Fit [0, 0, 0, p]) := by
    intro z hz
    simp at hz
    omega
  have HP2 := HP
  have HN2 := HN
  clear hS hD
  go_wp2_with (first
    | (at_make; refine wpList_make_own _ rfl _ _ _ rfl W0.heap.size 5 i (.int .u8 0) 1 Tryz.underlying25 hi hz hs .i64 .i64 40 40 rfl rfl rfl (by rw [hby]; decide) (by decide) (Nat.le_refl _) ?_; intro X hown hgr; have hG : Grow W0 _ [] X := ⟨hown, (Below.refl _ W0).grown hgr (Nat.le_refl _) (fun k hk => by cases hk)⟩; clear hown hgr)
    | (at_builtin; refine wpList_append_ex rfl _ _ _ _ rfl rfl rfl (hG.arr HS.out (by simp) _) ?_; clear HS hG; rintro v1 X1 hG1)
    | (at_builtin; refine wpList_append_ex rfl _ _ _ _ rfl rfl rfl (hG1.arr HD.out (by simp) _) ?_; clear HD hG1; rintro v2 X2 hG2)
    | (at_builtin; refine wpList_append_ex rfl _ _ _ _ rfl rfl rfl (hG2.lit [0, 0, n / 256, n % 256] _ rfl HP.out (by simp) _ rfl _) ?_; clear HP hG2; rintro v3 X3 hG3)
    | (at_builtin; refine wpList_append_ex rfl _ _ _ _ rfl rfl rfl (hG3.lit [0, 0, 0, p] _ rfl HN.out (by simp) _ rfl _) ?_; clear HN hG3; rintro v4 X4 hG4))
  go_ret2
  refine ⟨v4, rfl, hG4.bytes (ha.append (hb.append (HP2.out.append HN2.out))), hB0.trans (hG4.below.mono hB0.size)⟩
set_option maxRecDepth 10000 in
set_option maxHeartbeats 2000000 in
theorem pseudo6_ref (a0 a1 a2 a3 a4 a5 a6 a7 a8 a9 a10 a11 a12 a13 a14 a15 b0 b1 b2 b3 b4 b5 b6 b7 b8 b9 b10 b11 b12 b13 b14 b15 p n : Int) (ha : Fit [a0, a1, a2, a3, a4, a5, a6, a7, a8, a9, a10, a11, a12, a13, a14, a15]) (hb : Fit [b0, b1, b2, b3, b4, b5, b6, b7, b8, b9, b10, b11, b12, b13, b14, b15]) (hp : 0 ≤ p ∧ p < 256) (hn : 0 ≤ n ∧ n ≤ 65535) (w : World) :
    Calls Tryz.prog 84 #[.agg #[.int .u8 a0, .int .u8 a1, .int .u8 a2, .int .u8 a3, .int .u8 a4, .int .u8 a5, .int .u8 a6, .int .u8 a7, .int .u8 a8, .int .u8 a9, .int .u8 a10, .int .u8 a11, .int .u8 a12, .int .u8 a13, .int .u8 a14, .int .u8 a15], .agg #[.int .u8 b0, .int .u8 b1, .int .u8 b2, .int .u8 b3, .int .u8 b4, .int .u8 b5, .int .u8 b6, .int .u8 b7, .int .u8 b8, .int .u8 b9, .int .u8 b10, .int .u8 b11, .int .u8 b12, .int .u8 b13, .int .u8 b14, .int .u8 b15], .int .u8 p, .int .i64 n] w fun e w' =>
      ∃ v, e = .returned (.tuple #[v, .int .i64 0]) ∧ BytesAt w'.heap.size w' v [a0, a1, a2, a3, a4, a5, a6, a7, a8, a9, a10, a11, a12, a13, a14, a15, b0, b1, b2, b3, b4, b5, b6, b7, b8, b9, b10, b11, b12, b13, b14, b15, 0, 0, n / 256, n % 256, 0, 0, 0, p] ∧ Below w.heap.size w w' := by
  have h2 := bytes_two w 28 28 [a0, a1, a2, a3, a4, a5, a6, a7, a8, a9, a10, a11, a12, a13, a14, a15] [b0, b1, b2, b3, b4, b5, b6, b7, b8, b9, b10, b11, b12, b13, b14, b15] #[.int .u8 a0, .int .u8 a1, .int .u8 a2, .int .u8 a3, .int .u8 a4, .int .u8 a5, .int .u8 a6, .int .u8 a7, .int .u8 a8, .int .u8 a9, .int .u8 a10, .int .u8 a11, .int .u8 a12, .int .u8 a13, .int .u8 a14, .int .u8 a15] #[.int .u8 b0, .int .u8 b1, .int .u8 b2, .int .u8 b3, .int .u8 b4, .int .u8 b5, .int .u8 b6, .int .u8 b7, .int .u8 b8, .int .u8 b9, .int .u8 b10, .int .u8 b11, .int .u8 b12, .int .u8 b13, .int .u8 b14, .int .u8 b15] 16 16 rfl rfl rfl rfl (by decide) (by decide) ha hb
  have hB0 : Below w.heap.size w ((w.alloc (.cells #[.int .u8 a0, .int .u8 a1, .int .u8 a2, .int .u8 a3, .int .u8 a4, .int .u8 a5, .int .u8 a6, .int .u8 a7, .int .u8 a8, .int .u8 a9, .int .u8 a10, .int .u8 a11, .int .u8 a12, .int .u8 a13, .int .u8 a14, .int .u8 a15] 28)).alloc (.cells #[.int .u8 b0, .int .u8 b1, .int .u8 b2, .int .u8 b3, .int .u8 b4, .int .u8 b5, .int .u8 b6, .int .u8 b7, .int .u8 b8, .int .u8 b9, .int .u8 b10, .int .u8 b11, .int .u8 b12, .int .u8 b13, .int .u8 b14, .int .u8 b15] 28)) := ((Below.refl _ w).alloc (Nat.le_refl _) _).alloc (by simp) _
  have hd0 : decide (n < 0) = false := decide_eq_false (by omega)
  have hd1 : decide (65535 < n) = false := decide_eq_false (by omega)
  go_enter Tryz.func84, Tryz.ntmps84
  go_wp2_with fail
  generalize ((w.alloc (.cells #[.int .u8 a0, .int .u8 a1, .int .u8 a2, .int .u8 a3, .int .u8 a4, .int .u8 a5, .int .u8 a6, .int .u8 a7, .int .u8 a8, .int .u8 a9, .int .u8 a10, .int .u8 a11, .int .u8 a12, .int .u8 a13, .int .u8 a14, .int .u8 a15] 28)).alloc (.cells #[.int .u8 b0, .int .u8 b1, .int .u8 b2, .int .u8 b3, .int .u8 b4, .int .u8 b5, .int .u8 b6, .int .u8 b7, .int .u8 b8, .int .u8 b9, .int .u8 b10, .int .u8 b11, .int .u8 b12, .int .u8 b13, .int .u8 b14, .int .u8 b15] 28)) = W0 at *
  obtain ⟨hS, hD⟩ := h2
  have HS : Hid _ := hS
  have HD : Hid _ := hD
  have HP : Hid (Fit [0, 0, n / 256, n % 256, 0, 0, 0, p]) := by
    intro z hz
    simp at hz
    omega
  clear hS hD
  have HP2 := HP
  go_region_law (first
    | (refine step_append_ex rfl _ _ _ _ rfl rfl rfl (Grow.arr (Grow.drew (grow_start _)) HS.out (by simp) _) ?_; intro v1 X1 hG1)
    | (refine step_append_ex rfl _ _ _ _ rfl rfl rfl (Grow.arr hG1 HD.out (by simp) _) ?_; intro v2 X2 hG2))
  go_wp2_with (at_builtin; refine wpList_append_ex rfl _ _ _ _ rfl rfl rfl (hG2.lit [0, 0, n / 256, n % 256, 0, 0, 0, p] _ rfl HP.out (by simp) _ rfl _) ?_; clear HP hG2; rintro v4 X4 hG4)
  go_ret2
  refine ⟨v4, rfl, hG4.bytes (ha.append (hb.append HP2.out)), hB0.trans (hG4.below.mono hB0.size)⟩
end Go.Proofs.YtpgnnplpcalbbaaGreat
namespace Go.Proofs.YtpgnnplpcalbbaaGreat
open Go Go.RowKit
def w2 (x : Int) : List Int := [x / 256, x % 256]
def wbL : List Int → List Int
  | [] => []
  | x :: xs => w2 x ++ wbL xs
theorem wbL_append : ∀ (xs ys : List Int), wbL (xs ++ ys) = wbL xs ++ wbL ys
  | [], ys => rfl
  | x :: xs, ys => by simp [wbL, wbL_append xs ys]
theorem wbL_length : ∀ (xs : List Int), (wbL xs).length = 2 * xs.length
  | [] => rfl
  | x :: xs => by simp [wbL, w2, wbL_length xs]; omega
theorem w2_fit {x : Int} (h : 0 ≤ x ∧ x ≤ 65535) : Fit (w2 x) := fun z hz => by simp [w2] at hz; omega
theorem wbL_fit : ∀ {xs : List Int}, Words xs → Fit (wbL xs)
  | [], _ => fun z hz => by simp [wbL] at hz
  | x :: xs, h => fun z hz => by
    simp only [wbL, List.mem_append] at hz
    rcases hz with hz | hz
    · exact w2_fit (h x (by simp)) z hz
    · exact wbL_fit (fun y hy => h y (by simp [hy])) z hz
theorem wbL_snoc (xs : List Int) (k : Nat) (h : k < xs.length) : wbL (xs.take (k + 1)) = wbL (xs.take k) ++ w2 (xs[k]?.getD 0) := by
  rw [List.take_succ_eq_append_getElem h, wbL_append]
  simp [wbL, h]
structure WordsAt (w : World) (v : Value) (ws : List Int) : Prop where
  fit : Words ws
  val : ∃ b off cap, v = .slice (some ⟨b, off, none⟩) ws.length cap ∧ b < w.heap.size ∧ ∀ j, j < ws.length → w.cell? ⟨b, off + j, none⟩ = some (.int .u16 (ws[j]?.getD 0))
theorem words_new (w : World) (ws : List Int) (us : Array Value) (t : TypeId) (n : Nat) (hu : us = (ws.map (fun z => Value.int .u16 z)).toArray) (hn : n = ws.length) (hf : Words ws) :
    WordsAt (w.alloc (.cells us t)) (.slice (some ⟨w.heap.size, 0, none⟩) n n) ws := by
  refine ⟨hf, w.heap.size, 0, n, by rw [hn], by simp, fun j hj => ?_⟩
  have hb := World.alloc_heap_new w (.cells us t)
  simp only [World.cell?]
  rw [hb, hu]
  simp [hj]
theorem own_G {w : World} {base n : Nat} {v : Value} {zs : List Int} (h : w.ownsRow base 5 1 v n (bytesV zs)) (hn : 0 < n) : ∃ g cap, v = .slice (some ⟨g, 0, none⟩) n cap ∧ n ≤ cap ∧ cap ≤ maxLen ∧ base ≤ g ∧ OwnG w g zs := by
  have hl : zs.length = n := by have := h.1; simp [bytesV] at this; omega
  rcases h.2 with ⟨e, h0⟩ | ⟨g, cap, cur, rfl, hb, hg, hc, hm, _⟩
  · omega
  · refine ⟨g, cap, rfl, hc, hm, hb, ⟨cur, _, hg⟩, fun j hj => ?_⟩
    have := h.cells (g := g) rfl j (.int .u8 (zs[j]?.getD 0)) (by rw [bytesV, List.getElem?_map]; simp [hj])
    rw [Go.WideShapes.add_plain] at this
    simpa using this
theorem OB.start {w X : World} {v : Value} (hown : X.ownsRow w.heap.size 5 1 v 0 []) (hgr : w.grownBy X none) : OB w.heap.size w X v [] :=
  ⟨hown, (Below.refl _ w).grown hgr (Nat.le_refl _) (fun k hk => by cases hk)⟩
set_option maxHeartbeats 1000000 in
set_option maxRecDepth 100000 in
theorem wordBytes_calls (v : Value) (ws : List Int) (w : World) (h : WordsAt w v ws) (hl : ws.length ≤ 1000) (h0 : 0 < ws.length) :
    Calls Tryz.prog 248 #[v] w fun e w' => ∃ g cap, e = .returned (.slice (some ⟨g, 0, none⟩) (2 * ws.length) cap) ∧ 2 * ws.length ≤ cap ∧ cap ≤ maxLen ∧ w.heap.size ≤ g ∧ OwnG w' g (wbL ws) ∧ Below w.heap.size w w' := by
  obtain ⟨hf, b, off, cap, rfl, hbn, hc⟩ := h
  obtain ⟨i, hi, hz, hs, hby⟩ := info_parts info_u8
  have HS : Hid (∀ k, k < ws.length → wbL (ws.take (k + 1)) = wbL (ws.take k) ++ w2 (ws[k]?.getD 0)) := wbL_snoc ws
  have HL : Hid (∀ k, k ≤ ws.length → (wbL (ws.take k)).length = 2 * k) := fun k hk => by rw [wbL_length, List.length_take, Nat.min_eq_left hk]
  have HT : Hid (ws.take ws.length = ws) := List.take_length
  have hw : ∀ k : Nat, 0 ≤ ws[k]?.getD 0 ∧ ws[k]?.getD 0 ≤ 65535 := fun k => by
    cases e : ws[k]? with
    | none => simp
    | some z => exact hf z (List.mem_of_getElem? e)
  have HW : Hid _ := hw
  clear hw
  generalize hN : ws.length = N at *
  have HN : Hid _ := hN
  clear hN hf
  go_enter Tryz.func248, Tryz.ntmps248
  go_wp2_with (at_make; refine wpList_make_own _ rfl _ _ _ rfl w.heap.size 5 i (.int .u8 0) 1 Tryz.underlying25 hi hz hs .i64 .i64 _ (2 * N) rfl rfl (by omega) (by rw [hby]; omega) (by unfold maxLen; omega) (Nat.le_refl _) ?_; intro X hown hgr; have hO := OB.start hown hgr; clear hown hgr)
  go_loopw [3, 12] (fun v i wr => ∃ k : Nat, k ≤ N ∧ i = .int .i64 k ∧ OB w.heap.size w wr v (wbL (ws.take k)) ∧ w.heap.size ≤ wr.heap.size) (fun _ i _ => N - (intOf i).toNat)
  case atStart => exact ⟨0, Nat.zero_le _, rfl, by simpa [wbL] using hO, hO.bel.size⟩
  case round =>
    clear hO
    obtain ⟨k, hk, rfl, hO, hsz⟩ := hrel
    by_cases hlt : k < N
    · have hcell := (hO.bel.cell (p := ⟨b, off + k, none⟩) hbn).trans (hc k hlt)
      have hw := HW.out k
      have hsn := HS.out k hlt
      have hll := HL.out k hk
      generalize ws[k]?.getD 0 = x at *
      obtain ⟨v1, w1, hr, h1, hs1, _⟩ := hO.lit hsz (w2 x) #[.int .u8 (x / 256), .int .u8 (x % 256)] rfl (w2_fit hw) (by simp [w2]; omega) 2 rfl 25
      rw [← hsn] at h1
      have HR : Hid _ := hr
      have H1 : Hid _ := h1
      have q1 : x / 256 % 256 = x / 256 := by omega
      clear hr h1 hO hc hsn
      go_wp2_with (at_builtin; refine wpList_append_run rfl _ _ _ _ rfl rfl rfl HR.out ?_)
      exact ⟨⟨k + 1, by omega, by simp, H1.out, hs1⟩, by simp [intOf]; omega⟩
    · obtain rfl : k = N := by omega
      have hown := hO.own
      rw [HT.out] at hown
      have hwl : (wbL ws).length = 2 * k := by have := HL.out k hk; rwa [HT.out] at this
      rw [hwl] at hown
      obtain ⟨g, cp, rfl, c1, c2, c3, c4⟩ := own_G hown (by omega)
      have hB := hO.bel
      clear hown hO hc
      go_wp2
      go_ret
      exact ⟨g, cp, rfl, c1, c2, c3, c4, hB⟩
set_option maxHeartbeats 1000000 in
set_option maxRecDepth 100000 in
theorem neverZero_calls (x : Int) (w : World) : Calls Tryz.prog 269 #[.int .u16 x] w fun e w' => e = .returned (.int .u16 (if x = 0 then 65535 else x)) ∧ w' = w := by
  by_cases h : x = 0
  · subst h
    go_enter Tryz.func269, Tryz.ntmps269
    go_wp2
    go_ret
    exact ⟨rfl, rfl⟩
  · rw [if_neg h]
    have h1 : (x == 0) = false := by simpa using h
    clear h
    go_enter Tryz.func269, Tryz.ntmps269
    go_wp2
    go_ret
    exact ⟨rfl, rfl⟩
/-- putWord: two bytes of a row of one's own are turned. -/
theorem OwnG.put {b : Nat} {u w : World} {zs : List Int} (h : OwnG u b zs) (hw : Below u.heap.size u w) : OwnG w b zs := h.kept h.lt hw
set_option maxHeartbeats 1000000 in
set_option maxRecDepth 100000 in
theorem putWord_calls6 (b o n cap : Nat) (zs : List Int) (x : Int) (w : World) (h : OwnG w b zs) (hn : 2 ≤ n) (ho : o + n ≤ zs.length) (hx : 0 ≤ x ∧ x ≤ 65535) (hs : zs.length ≤ 140737488351232) :
    Calls Tryz.prog 268 #[.slice (some ⟨b, o, none⟩) n cap, .int .u16 x] w fun e w' => e = .returned (.tuple #[]) ∧ OwnG w' b (laid zs o (w2 x)) ∧ But b w w' := by
  have hnew := words_new w [x] #[.int .u16 x] 22 1 rfl rfl (fun z hz => by simp at hz; subst hz; exact hx)
  have hB0 := (Below.refl w.heap.size w).alloc (Nat.le_refl _) (.cells #[.int .u16 x] 22)
  have HW : Hid _ := wordBytes_calls _ _ _ hnew (by simp) (by simp)
  have HB0 : Hid _ := hB0
  have H : Hid _ := h
  clear hnew hB0 h
  go_enter Tryz.func268, Tryz.ntmps268
  go_wp2_with fail
  refine Calls.mono HW.out ?_
  rintro _ w1 ⟨g, cp, rfl, c1, c2, c3, c4, hb1⟩
  have hb := HB0.out.trans (hb1.mono HB0.out.size)
  have hsrc := c4.bytes (wbL_fit (xs := [x]) (fun z hz => by simp at hz; subst hz; exact hx)) (by simp [wbL, w2]) 0 2 cp (by simp [wbL, w2])
  have e : ((wbL [x]).drop 0).take 2 = w2 x := by simp [wbL, w2]
  rw [e] at hsrc
  have hown := H.out.kept H.out.lt hb
  have HC : Hid _ := fun ty => OwnG.copy hown hsrc o n cap ho (by simp [w2]; omega) ty
  have HBB : Hid _ := hb
  clear hb hsrc hown c4 hb1 c1 c2 c3 HW HB0 e
  go_wp2_with ((with_reducible show wpList _ _ _ _ _ _); refine arm_copy rfl (.tmp 4) (.tmp 7) _ _ rfl rfl rfl (HC.out _) ?_; rintro v5 w5 ⟨own5, only5⟩)
  go_end0
  exact ⟨rfl, own5, (But.of_below HBB.out).trans (But.of_only only5)⟩
end Go.Proofs.YtpgnnplpcalbbaaGreat
