/-
  The document's WriteUDP.
-/
import Derived.Test.YtnlaomjhnndblaaSi5
namespace Go.Proofs.Ytnlaomjhnndblaa
open Go Go.RowKit Go.Shelf
set_option linter.unusedVariables false
set_option linter.unusedSimpArgs false

theorem ex_fieldU {o : Oper} {a : Act} {W : World} (k : Nat) (i : Nat) {b : Nat} (hop : o.op = Op.fieldAddr 31 (.tmp k) i) (hk : a.eval (.tmp k) = .pointer (some ⟨b, 0, none⟩)) (hi : i = 0 ∨ i = 1 ∨ i = 2) :
    (execOp a.eval o).run Try.prog W = .ok (.value (.pointer (some ⟨b, i, none⟩))) W := by
  generalize a.eval = ev at *
  rcases hi with rfl | rfl | rfl <;> simp [execOp, hop, hk, go_sem]
theorem ex_load16 {o : Oper} {a : Act} {W : World} (k : Nat) {p : Addr} {x : Int} (hop : o.op = Op.load 28 (.tmp k)) (hk : a.eval (.tmp k) = .pointer (some p)) (hc : W.cell? p = some (.int .u16 x)) :
    (execOp a.eval o).run Try.prog W = .ok (.value (.int .u16 x)) W := by
  generalize a.eval = ev at *
  simp [execOp, hop, hk, hc, go_sem]
theorem ex_u64 {o : Oper} {a : Act} {W : World} (p : Operand) {k : IntKind} {x : Int} {t : TypeId} (hop : o.op = Op.convert t 77 p) (ht : (t = 28 ∧ k = .u16) ∨ (t = 32 ∧ k = .u32) ∨ (t = 3 ∧ k = .i64)) (hp : a.eval p = .int k x) (hx : 0 ≤ x ∧ x ≤ 4294967295) :
    (execOp a.eval o).run Try.prog W = .ok (.value (.int .u64 x)) W := by
  have e : IntKind.u64.wrap x = x := by rw [IntKind.wrap_u64]; omega
  generalize a.eval = ev at *
  rcases ht with ⟨rfl, rfl⟩ | ⟨rfl, rfl⟩ | ⟨rfl, rfl⟩ <;> simp [execOp, hop, hp, go_sem, e]
theorem ex_move {P : Program} {o : Oper} {a : Act} {W : World} (p : Operand) (hop : o.op = Op.move p) {v : Value} (hp : a.eval p = v) : (execOp a.eval o).run P W = .ok (.value v) W := by
  generalize a.eval = ev at *
  simp [execOp, hop, hp, go_sem]

theorem wp_lit00 {o : Oper} {a : Act} {d : Option Nat} {w : World} {K : Act → World → Prop} {Q : Exit → Act → World → Prop} (hop : o.op = Op.buildSlice 29 2 #[(0, .const (.int .u8 0)), (1, .const (.int .u8 0))]) (hd : o.dst = d) (hK : K (a.put d (.slice (some ⟨w.heap.size, 0, none⟩) 2 2)) (w.alloc (.cells #[.int .u8 0, .int .u8 0] 5))) : o.wp Try.prog a w K Q := by
  subst hd
  unfold Oper.wp
  simp [execOp, hop, go_sem]
  exact hK
theorem wp_parts4 {o : Oper} {a : Act} {d : Option Nat} {w : World} {K : Act → World → Prop} {Q : Exit → Act → World → Prop} (p0 p1 p2 p3 : Operand) (hop : o.op = Op.buildSlice 71 4 #[(0, p0), (1, p1), (2, p2), (3, p3)]) (hd : o.dst = d) {v0 v1 v2 v3 : Value} (h0 : a.eval p0 = v0) (h1 : a.eval p1 = v1) (h2 : a.eval p2 = v2) (h3 : a.eval p3 = v3)
    (s0 : ∃ x n m, v0 = .slice x n m) (s1 : ∃ x n m, v1 = .slice x n m) (s2 : ∃ x n m, v2 = .slice x n m) (s3 : ∃ x n m, v3 = .slice x n m)
    (hK : K (a.put d (.slice (some ⟨w.heap.size, 0, none⟩) 4 4)) (w.alloc (.cells #[v0, v1, v2, v3] 29))) : o.wp Try.prog a w K Q := by
  obtain ⟨x0, n0, m0, rfl⟩ := s0
  obtain ⟨x1, n1, m1, rfl⟩ := s1
  obtain ⟨x2, n2, m2, rfl⟩ := s2
  obtain ⟨x3, n3, m3, rfl⟩ := s3
  subst hd
  unfold Oper.wp
  generalize hev : a.eval = ev at *
  simp [execOp, hop, h0, h1, h2, h3, go_sem]
  exact hK
theorem BytesAt.slc {n : Nat} {W : World} {v : Value} {zs : List Int} (h : BytesAt n W v zs) : ∃ x n m, v = .slice x n m := by
  obtain ⟨x, m, e, _⟩ := h.val
  exact ⟨x, _, m, e⟩

set_option maxHeartbeats 2000000 in
set_option maxRecDepth 100000 in
theorem RWriteUDP_long (sv dv : Value) (N : Nat) (ph : Int → Int → List Int) (c : List Value) (src dst : Int) (data : List Int) (w : World) (he : EndV w sv dv N ph) (hu : UdpC w c src dst data) (hn : 65535 < 8 + data.length) :
    Calls Try.prog 14 #[sv, dv, .agg c.toArray] w fun e w' => e = .returned (.tuple #[.slice none 0 0, .int .i64 2]) ∧ Below w.heap.size w w' := by
  obtain ⟨⟨vd, rfl, hd⟩, fs, fd⟩ := hu
  obtain ⟨sa, cs, rfl⟩ := he.sval
  obtain ⟨ad, cd, rfl⟩ := he.dval
  have hB0 := (Below.refl w.heap.size w).alloc (Nat.le_refl _) (.cells [.int .u16 src, .int .u16 dst, vd].toArray 31)
  have HB0 : Hid _ := hB0
  have hld := hd.len
  obtain ⟨av, kv, rfl, _⟩ := hd.val
  have q : decide ((65527 : Int) < (data.length : Int)) = true := by simp; omega
  clear hd hB0 he
  go_enter Try.func14, Try.ntmps14
  go_wp2
  go_ret2
  exact ⟨rfl, HB0.out⟩

/-- A region that draws, by what it leaves. -/
theorem region_mid {P : Program} {id : Nat} {ops : Array Oper} {Q : Exit → Act → World → Prop} {a : Act} {w : World} (M : Act → Act → World → Prop) (h : (Code.region id ops true).wp P (fun e a' w' => e = .normal ∧ M a a' w') a w) (hM : ∀ a' w', M a a' w' → Q .normal a' w') : (Code.region id ops true).wp P Q a w :=
  wp_mono h (fun e a' w' ⟨he, hm⟩ => he ▸ hM a' w' hm)

def rudpL (ph : Int → Int → List Int) (src dst : Int) (data : List Int) : List Int :=
  w2 src ++ w2 dst ++ w2 (8 + (data.length : Int)) ++ w2 (nz (65535 - sumW 0 (wordsL (ph 17 (8 + (data.length : Int)) ++ (w2 src ++ w2 dst ++ w2 (8 + (data.length : Int)) ++ ([0, 0] ++ data)))))) ++ data
set_option maxHeartbeats 4000000 in
set_option maxRecDepth 100000 in
theorem RWriteUDP_ok (sv dv : Value) (N : Nat) (ph : Int → Int → List Int) (c : List Value) (src dst : Int) (data : List Int) (w : World) (he : EndV w sv dv N ph) (hph : ∀ p n : Int, 0 ≤ p ∧ p < 256 → 0 ≤ n ∧ n ≤ 65535 → Fit (ph p n)) (hu : UdpC w c src dst data) (hn : 8 + data.length ≤ 65535) :
    Calls Try.prog 14 #[sv, dv, .agg c.toArray] w fun e w' => ∃ v, e = .returned (.tuple #[v, .int .i64 0]) ∧ OB w.heap.size w w' v (rudpL ph src dst data) := by
  obtain ⟨⟨vd, rfl, hd⟩, fs, fd⟩ := hu
  obtain ⟨sa, cs, rfl⟩ := he.sval
  obtain ⟨ad, cd, rfl⟩ := he.dval
  have hb0 := blk_new w (.cells [.int .u16 src, .int .u16 dst, vd].toArray 31)
  have hB0 := (Below.refl w.heap.size w).alloc (Nat.le_refl _) (.cells [.int .u16 src, .int .u16 dst, vd].toArray 31)
  obtain ⟨W0, hW0⟩ : ∃ W0, w.alloc (.cells [.int .u16 src, .int .u16 dst, vd].toArray 31) = W0 := ⟨_, rfl⟩
  rw [hW0] at hb0 hB0
  have K0 : Hid (∀ W, Below W0.heap.size W0 W → W.cell? ⟨w.heap.size, 0, none⟩ = some (.int .u16 src)) := fun W hW => blk_cell (j := 0) (blk_on hb0 hW) rfl
  have K1 : Hid (∀ W, Below W0.heap.size W0 W → W.cell? ⟨w.heap.size, 1, none⟩ = some (.int .u16 dst)) := fun W hW => blk_cell (j := 1) (blk_on hb0 hW) rfl
  have K2 : Hid (∀ W, Below W0.heap.size W0 W → W.cell? ⟨w.heap.size, 2, none⟩ = some vd) := fun W hW => blk_cell (j := 2) (blk_on hb0 hW) rfl
  have k2 := K2.out W0 (Below.refl _ _)
  have hld := hd.len
  have q : decide ((65527 : Int) < (data.length : Int)) = false := by simp; omega
  have HD : Hid (∀ W, Below W0.heap.size W0 W → BytesAt W.heap.size W vd data) := fun W hW => hd.later (hB0.trans (hW.mono hB0.size))
  have HPS : Hid (∀ W, Below W0.heap.size W0 W → Calls Try.prog 40 #[.slice sa N cs, .slice ad N cd, .int .u8 17, .int .i64 (8 + (data.length : Int))] W fun e w' => ∃ u, e = .returned u ∧ (BytesAt w'.heap.size w' u (ph 17 (8 + (data.length : Int))) ∧ Below W.heap.size W w')) := fun W hW => he.tells W (hB0.trans (hW.mono hB0.size)) 17 _ (by decide) (by omega)
  have HEV : Hid _ := he.even
  have HFD : Hid (Fit data) := hd.fit
  have HPF : Hid _ := hph
  have hvd : ∃ x n m, vd = .slice x n m := by obtain ⟨x, m, e, _⟩ := hd.val; exact ⟨x, _, m, e⟩
  have HB0 : Hid _ := hB0
  obtain ⟨av, kv, rfl, _⟩ := hd.val
  clear hd hB0 he hb0 hph
  go_enter Try.func14, Try.ntmps14
  go_wp2_with fail
  refine wp_region_held (S := fun W => Below W0.heap.size W0 W) (by kernel_rfl) ?_
  show wpAnyH _ _ _ _ _ 12 (Array.replicate 12 false) _ W0.drew
  have hS0 : Below W0.heap.size W0 W0.drew := (Below.refl _ _).drew
  refine take_one (i := 0) (d := some 19) (v := .pointer (some ⟨w.heap.size, 0, none⟩)) rfl rfl rfl (by kernel_rfl) (by kernel_rfl) (by kernel_rfl) (fun _ _ d _ _ h => by cases d <;> exact h) (fun W hS => ex_fieldU 5 0 rfl rfl (.inl rfl)) hS0 ?_
  simp only [Act.put, List.setIfInBounds_toArray, List.set_cons_zero, List.set_cons_succ]
  refine take_one (i := 1) (d := some 20) (v := .int .u16 src) rfl rfl rfl (by kernel_rfl) (by kernel_rfl) (by kernel_rfl) (fun _ _ d _ _ h => by cases d <;> exact h) (fun W hS => ex_load16 19 rfl rfl (K0.out W hS)) hS0 ?_
  simp only [Act.put, List.setIfInBounds_toArray, List.set_cons_zero, List.set_cons_succ]
  refine take_one (i := 2) (d := some 21) (v := .int .u64 src) rfl rfl rfl (by kernel_rfl) (by kernel_rfl) (by kernel_rfl) (fun _ _ d _ _ h => by cases d <;> exact h) (fun W hS => ex_u64 (.tmp 20) (k := .u16) rfl (.inl ⟨rfl, rfl⟩) rfl (by omega)) hS0 ?_
  simp only [Act.put, List.setIfInBounds_toArray, List.set_cons_zero, List.set_cons_succ]
  refine take_one (i := 4) (d := some 23) (v := .pointer (some ⟨w.heap.size, 1, none⟩)) rfl rfl rfl (by kernel_rfl) (by kernel_rfl) (by kernel_rfl) (fun _ _ d _ _ h => by cases d <;> exact h) (fun W hS => ex_fieldU 5 1 rfl rfl (.inr (.inl rfl))) hS0 ?_
  simp only [Act.put, List.setIfInBounds_toArray, List.set_cons_zero, List.set_cons_succ]
  refine take_one (i := 5) (d := some 24) (v := .int .u16 dst) rfl rfl rfl (by kernel_rfl) (by kernel_rfl) (by kernel_rfl) (fun _ _ d _ _ h => by cases d <;> exact h) (fun W hS => ex_load16 23 rfl rfl (K1.out W hS)) hS0 ?_
  simp only [Act.put, List.setIfInBounds_toArray, List.set_cons_zero, List.set_cons_succ]
  refine take_one (i := 6) (d := some 25) (v := .int .u64 dst) rfl rfl rfl (by kernel_rfl) (by kernel_rfl) (by kernel_rfl) (fun _ _ d _ _ h => by cases d <;> exact h) (fun W hS => ex_u64 (.tmp 24) (k := .u16) rfl (.inl ⟨rfl, rfl⟩) rfl (by omega)) hS0 ?_
  simp only [Act.put, List.setIfInBounds_toArray, List.set_cons_zero, List.set_cons_succ]
  refine take_one (i := 8) (d := some 27) (v := .int .i64 (8 + (data.length : Int))) rfl rfl rfl (by kernel_rfl) (by kernel_rfl) (by kernel_rfl) (fun _ _ d _ _ h => by cases d <;> exact h) (fun W hS => ex_move (.tmp 8) rfl rfl) hS0 ?_
  simp only [Act.put, List.setIfInBounds_toArray, List.set_cons_zero, List.set_cons_succ]
  refine take_one (i := 9) (d := some 28) (v := .int .u64 (8 + (data.length : Int))) rfl rfl rfl (by kernel_rfl) (by kernel_rfl) (by kernel_rfl) (fun _ _ d _ _ h => by cases d <;> exact h) (fun W hS => ex_u64 (.tmp 27) (k := .i64) rfl (.inr (.inr ⟨rfl, rfl⟩)) rfl (by omega)) hS0 ?_
  simp only [Act.put, List.setIfInBounds_toArray, List.set_cons_zero, List.set_cons_succ]
  have o0 : OB W0.heap.size W0 W0.drew (.slice none 0 0) [] := ⟨World.ownsRow_nil _ _ _ _, hS0⟩
  refine all_one (i := 3) (by kernel_rfl) rfl rfl ?_
  refine wp_call (d := some 22) 43 _ rfl (by kernel_rfl) (put_calls o0 (Nat.le_refl _) src (by omega) 2 (by decide) (by simp)) ?_
  rintro v1 w1 ⟨o1, s1, st1⟩
  refine ⟨o1.bel, ?_⟩
  rw [List.nil_append, putB_two fs] at o1
  simp only [Act.put, List.setIfInBounds_toArray, List.set_cons_zero, List.set_cons_succ]
  refine all_one (i := 7) (by kernel_rfl) rfl rfl ?_
  refine wp_call (d := some 26) 43 _ rfl (by kernel_rfl) (put_calls o1 s1 dst (by omega) 2 (by decide) (by simp [w2])) ?_
  rintro v2 w2_ ⟨o2, s2, st2⟩
  refine ⟨o2.bel, ?_⟩
  rw [putB_two fd] at o2
  simp only [Act.put, List.setIfInBounds_toArray, List.set_cons_zero, List.set_cons_succ]
  refine all_one (i := 10) (by kernel_rfl) rfl rfl ?_
  refine wp_call (d := some 29) 43 _ rfl (by kernel_rfl) (put_calls o2 s2 (8 + (data.length : Int)) (by omega) 2 (by decide) (by simp [w2])) ?_
  rintro v3 w3 ⟨o3, s3, st3⟩
  refine ⟨o3.bel, ?_⟩
  rw [putB_two (by omega)] at o3
  simp only [Act.put, List.setIfInBounds_toArray, List.set_cons_zero, List.set_cons_succ]
  refine take_one (i := 11) (d := some 9) (v := v3) rfl rfl rfl (by kernel_rfl) (by kernel_rfl) (by kernel_rfl) (fun _ _ d _ _ h => by cases d <;> exact h) (fun W hS => ex_assign (.tmp 29) rfl rfl) o3.bel ?_
  simp only [Act.put, List.setIfInBounds_toArray, List.set_cons_zero, List.set_cons_succ]
  refine wpAnyH_done (by kernel_rfl) ?_ _
  have HO3 : Hid (OB W0.heap.size W0 w3 v3 (w2 src ++ w2 dst ++ w2 (8 + (data.length : Int)))) := o3
  have hfit3 : Fit (w2 src ++ w2 dst ++ w2 (8 + (data.length : Int))) := ((w2_fit fs).append (w2_fit fd)).append (w2_fit (by omega))
  have hlen3 : (w2 src ++ w2 dst ++ w2 (8 + (data.length : Int))).length = 6 := rfl
  obtain ⟨ab, cb, e3, _⟩ := (own_bytes o3.own hfit3 (by rw [hlen3]; decide)).val
  rw [hlen3] at e3
  subst e3
  have HFIT3 : Hid (Fit (w2 src ++ w2 dst ++ w2 (8 + (data.length : Int)))) := hfit3
  clear o0 o1 o2 o3 st1 st2 st3 s1 s2 hS0 hfit3
  go_wp2_with fail
  refine region_mid (fun a a' w' => ∃ v33 v35 v38, a' = ((((((((((a.put (some 30) (.slice sa N cs)).put (some 31) (.slice ad N cd)).put (some 32) (.int .i64 (8 + (data.length : Int)))).put (some 34) (.slice ab 6 cb)).put (some 36) (.pointer (some ⟨w.heap.size, 2, none⟩))).put (some 37) (.slice av data.length kv)).put (some 33) v33).put (some 35) v35).put (some 38) v38).put (some 39) (.int .u16 (65535 - sumW 0 (wordsL (ph 17 (8 + (data.length : Int)) ++ (w2 src ++ w2 dst ++ w2 (8 + (data.length : Int)) ++ ([0, 0] ++ data))))))).put (some 10) (.int .u16 (65535 - sumW 0 (wordsL (ph 17 (8 + (data.length : Int)) ++ (w2 src ++ w2 dst ++ w2 (8 + (data.length : Int)) ++ ([0, 0] ++ data)))))) ∧ Below w3.heap.size w3 w') ?_ ?_
  · have hS0 : Below w3.heap.size w3 w3.drew := (Below.refl _ _).drew
    have hX : ∀ W, Below w3.heap.size w3 W → Below W0.heap.size W0 W := fun W hW => HO3.out.bel.trans (hW.mono s3)
    refine wp_region_held (S := fun W => Below w3.heap.size w3 W) (by kernel_rfl) ?_
    show wpAnyH _ _ _ _ _ 11 (Array.replicate 11 false) _ w3.drew
    refine take_one (i := 0) (d := some 30) (v := .slice sa N cs) rfl rfl rfl (by kernel_rfl) (by kernel_rfl) (by kernel_rfl) (fun _ _ _ _ _ h => absurd h.1 (by simp)) (fun W hS => ex_move (.tmp 0) rfl rfl) hS0 ?_
    simp only [Act.put, List.setIfInBounds_toArray, List.set_cons_zero, List.set_cons_succ]
    refine take_one (i := 1) (d := some 31) (v := .slice ad N cd) rfl rfl rfl (by kernel_rfl) (by kernel_rfl) (by kernel_rfl) (fun _ _ _ _ _ h => absurd h.1 (by simp)) (fun W hS => ex_move (.tmp 1) rfl rfl) hS0 ?_
    simp only [Act.put, List.setIfInBounds_toArray, List.set_cons_zero, List.set_cons_succ]
    refine take_one (i := 2) (d := some 32) (v := .int .i64 (8 + (data.length : Int))) rfl rfl rfl (by kernel_rfl) (by kernel_rfl) (by kernel_rfl) (fun _ _ _ _ _ h => absurd h.1 (by simp)) (fun W hS => ex_move (.tmp 8) rfl rfl) hS0 ?_
    simp only [Act.put, List.setIfInBounds_toArray, List.set_cons_zero, List.set_cons_succ]
    refine take_one (i := 4) (d := some 34) (v := .slice ab 6 cb) rfl rfl rfl (by kernel_rfl) (by kernel_rfl) (by kernel_rfl) (fun _ _ _ _ _ h => absurd h.1 (by simp)) (fun W hS => ex_move (.tmp 9) rfl rfl) hS0 ?_
    simp only [Act.put, List.setIfInBounds_toArray, List.set_cons_zero, List.set_cons_succ]
    refine take_one (i := 6) (d := some 36) (v := .pointer (some ⟨w.heap.size, 2, none⟩)) rfl rfl rfl (by kernel_rfl) (by kernel_rfl) (by kernel_rfl) (fun _ _ _ _ _ h => absurd h.1 (by simp)) (fun W hS => ex_fieldU 5 2 rfl rfl (.inr (.inr rfl))) hS0 ?_
    simp only [Act.put, List.setIfInBounds_toArray, List.set_cons_zero, List.set_cons_succ]
    refine take_one (i := 7) (d := some 37) (v := .slice av data.length kv) rfl rfl rfl (by kernel_rfl) (by kernel_rfl) (by kernel_rfl) (fun _ _ _ _ _ h => absurd h.1 (by simp)) (fun W hS => ex_load 36 rfl rfl (K2.out W (hX W hS)) ⟨_, _, _, rfl⟩) hS0 ?_
    simp only [Act.put, List.setIfInBounds_toArray, List.set_cons_zero, List.set_cons_succ]
    refine all_two (i1 := 3) (i2 := 5) (by kernel_rfl) rfl rfl rfl rfl ?_ ?_
    · refine wp_call (d := some 33) 40 _ rfl (by kernel_rfl) (HPS.out _ (hX _ hS0)) ?_
      rintro u w4 ⟨hu, hb4⟩
      have hS4 := hS0.trans (hb4.mono (Nat.le_refl _))
      refine ⟨hS4, ?_⟩
      simp only [Act.put, List.setIfInBounds_toArray, List.set_cons_zero, List.set_cons_succ]
      refine all_one (i := 5) (by kernel_rfl) rfl rfl ?_
      refine wp_lit00 (d := some 35) rfl rfl ?_
      have hb5 := (Below.refl w4.heap.size w4).alloc (Nat.le_refl _) (.cells #[.int .u8 0, .int .u8 0] 5)
      have hS5 := hS4.trans (hb5.mono hS4.size)
      have p33 := hu.later hb5
      have p35 := bytes_new w4 5 [0, 0] #[.int .u8 0, .int .u8 0] 2 2 (bytes_lit _ _ rfl) rfl (by simp) (fit_of _ rfl)
      refine ⟨hS5, ?_⟩
      generalize w4.alloc (.cells #[.int .u8 0, .int .u8 0] 5) = w5 at *
      simp only [Act.put, List.setIfInBounds_toArray, List.set_cons_zero, List.set_cons_succ]
      generalize hs35 : Value.slice (some ⟨w4.heap.size, 0, none⟩) 2 2 = s35 at *
      have hX5 := hX _ hS5
      have p34 : BytesAt w5.heap.size w5 (.slice ab 6 cb) (w2 src ++ w2 dst ++ w2 (8 + (data.length : Int))) := (own_bytes HO3.out.own HFIT3.out (by rw [hlen3]; decide)).later hS5
      have hP := parts_four w5 _ _ _ _ 29 _ _ _ _ p33 p34 p35 (HD.out w5 hX5)
      have hBp := (Below.refl w5.heap.size w5).alloc (Nat.le_refl _) (.cells #[u, .slice ab 6 cb, s35, .slice av data.length kv] 29)
      have hfl : [ph 17 (8 + (data.length : Int)), w2 src ++ w2 dst ++ w2 (8 + (data.length : Int)), [0, 0], data].flatten = ph 17 (8 + (data.length : Int)) ++ (w2 src ++ w2 dst ++ w2 (8 + (data.length : Int)) ++ ([0, 0] ++ data)) := by simp
      have hof := ROf_calls _ _ _ _ _ hP (by rw [hfl]; have := (HEV.out 17 (8 + (data.length : Int))).1; simp [w2]; omega)
      rw [hfl] at hof
      refine all_one (i := 8) (by kernel_rfl) rfl rfl ?_
      refine wp_parts4 (d := some 38) (.tmp 33) (.tmp 34) (.tmp 35) (.tmp 37) rfl rfl rfl rfl rfl rfl p33.slc p34.slc p35.slc ⟨_, _, _, rfl⟩ ?_
      have hS6 := hS5.trans (hBp.mono hS5.size)
      refine ⟨hS6, ?_⟩
      simp only [Act.put, List.setIfInBounds_toArray, List.set_cons_zero, List.set_cons_succ]
      refine all_one (i := 9) (by kernel_rfl) rfl rfl ?_
      refine wp_call (d := some 39) 44 _ rfl (by kernel_rfl) (R := fun v w' => v = .int .u16 (65535 - sumW 0 (wordsL (ph 17 (8 + (data.length : Int)) ++ (w2 src ++ w2 dst ++ w2 (8 + (data.length : Int)) ++ ([0, 0] ++ data))))) ∧ Below (w5.alloc (.cells #[u, .slice ab 6 cb, s35, .slice av data.length kv] 29)).heap.size (w5.alloc (.cells #[u, .slice ab 6 cb, s35, .slice av data.length kv] 29)) w') (hof.mono (fun e w' h => ⟨_, h.1, rfl, h.2⟩)) ?_
      rintro v39 w7 ⟨rfl, hb7⟩
      have hS7 := hS6.trans (hb7.mono hS6.size)
      refine ⟨hS7, ?_⟩
      simp only [Act.put, List.setIfInBounds_toArray, List.set_cons_zero, List.set_cons_succ]
      refine take_one (i := 10) (d := some 10) (v := .int .u16 (65535 - sumW 0 (wordsL (ph 17 (8 + (data.length : Int)) ++ (w2 src ++ w2 dst ++ w2 (8 + (data.length : Int)) ++ ([0, 0] ++ data)))))) rfl rfl rfl (by kernel_rfl) (by kernel_rfl) (by kernel_rfl) (fun _ _ _ _ _ h => absurd h.1 (by simp)) (fun W hS => ex_assign (.tmp 39) rfl rfl) hS7 ?_
      simp only [Act.put, List.setIfInBounds_toArray, List.set_cons_zero, List.set_cons_succ]
      refine wpAnyH_done (by kernel_rfl) ?_ _
      refine ⟨rfl, u, s35, .slice (some ⟨w5.heap.size, 0, none⟩) 4 4, ?_, hS7⟩
      simp only [Act.put, List.setIfInBounds_toArray, List.set_cons_zero, List.set_cons_succ]
    · refine wp_lit00 (d := some 35) rfl rfl ?_
      have hb4 := (Below.refl w3.drew.heap.size w3.drew).alloc (Nat.le_refl _) (.cells #[.int .u8 0, .int .u8 0] 5)
      have hS4 := hS0.trans (hb4.mono hS0.size)
      have p35a := bytes_new w3.drew 5 [0, 0] #[.int .u8 0, .int .u8 0] 2 2 (bytes_lit _ _ rfl) rfl (by simp) (fit_of _ rfl)
      refine ⟨hS4, ?_⟩
      generalize w3.drew.alloc (.cells #[.int .u8 0, .int .u8 0] 5) = w4 at *
      simp only [Act.put, List.setIfInBounds_toArray, List.set_cons_zero, List.set_cons_succ]
      generalize hs35 : Value.slice (some ⟨w3.drew.heap.size, 0, none⟩) 2 2 = s35 at *
      refine all_one (i := 3) (by kernel_rfl) rfl rfl ?_
      refine wp_call (d := some 33) 40 _ rfl (by kernel_rfl) (HPS.out _ (hX _ hS4)) ?_
      rintro u w5 ⟨p33, hb5⟩
      have hS5 := hS4.trans (hb5.mono hS4.size)
      have p35 := p35a.later hb5
      refine ⟨hS5, ?_⟩
      simp only [Act.put, List.setIfInBounds_toArray, List.set_cons_zero, List.set_cons_succ]
      have hX5 := hX _ hS5
      have p34 : BytesAt w5.heap.size w5 (.slice ab 6 cb) (w2 src ++ w2 dst ++ w2 (8 + (data.length : Int))) := (own_bytes HO3.out.own HFIT3.out (by rw [hlen3]; decide)).later hS5
      have hP := parts_four w5 _ _ _ _ 29 _ _ _ _ p33 p34 p35 (HD.out w5 hX5)
      have hBp := (Below.refl w5.heap.size w5).alloc (Nat.le_refl _) (.cells #[u, .slice ab 6 cb, s35, .slice av data.length kv] 29)
      have hfl : [ph 17 (8 + (data.length : Int)), w2 src ++ w2 dst ++ w2 (8 + (data.length : Int)), [0, 0], data].flatten = ph 17 (8 + (data.length : Int)) ++ (w2 src ++ w2 dst ++ w2 (8 + (data.length : Int)) ++ ([0, 0] ++ data)) := by simp
      have hof := ROf_calls _ _ _ _ _ hP (by rw [hfl]; have := (HEV.out 17 (8 + (data.length : Int))).1; simp [w2]; omega)
      rw [hfl] at hof
      refine all_one (i := 8) (by kernel_rfl) rfl rfl ?_
      refine wp_parts4 (d := some 38) (.tmp 33) (.tmp 34) (.tmp 35) (.tmp 37) rfl rfl rfl rfl rfl rfl p33.slc p34.slc p35.slc ⟨_, _, _, rfl⟩ ?_
      have hS6 := hS5.trans (hBp.mono hS5.size)
      refine ⟨hS6, ?_⟩
      simp only [Act.put, List.setIfInBounds_toArray, List.set_cons_zero, List.set_cons_succ]
      refine all_one (i := 9) (by kernel_rfl) rfl rfl ?_
      refine wp_call (d := some 39) 44 _ rfl (by kernel_rfl) (R := fun v w' => v = .int .u16 (65535 - sumW 0 (wordsL (ph 17 (8 + (data.length : Int)) ++ (w2 src ++ w2 dst ++ w2 (8 + (data.length : Int)) ++ ([0, 0] ++ data))))) ∧ Below (w5.alloc (.cells #[u, .slice ab 6 cb, s35, .slice av data.length kv] 29)).heap.size (w5.alloc (.cells #[u, .slice ab 6 cb, s35, .slice av data.length kv] 29)) w') (hof.mono (fun e w' h => ⟨_, h.1, rfl, h.2⟩)) ?_
      rintro v39 w7 ⟨rfl, hb7⟩
      have hS7 := hS6.trans (hb7.mono hS6.size)
      refine ⟨hS7, ?_⟩
      simp only [Act.put, List.setIfInBounds_toArray, List.set_cons_zero, List.set_cons_succ]
      refine take_one (i := 10) (d := some 10) (v := .int .u16 (65535 - sumW 0 (wordsL (ph 17 (8 + (data.length : Int)) ++ (w2 src ++ w2 dst ++ w2 (8 + (data.length : Int)) ++ ([0, 0] ++ data)))))) rfl rfl rfl (by kernel_rfl) (by kernel_rfl) (by kernel_rfl) (fun _ _ _ _ _ h => absurd h.1 (by simp)) (fun W hS => ex_assign (.tmp 39) rfl rfl) hS7 ?_
      simp only [Act.put, List.setIfInBounds_toArray, List.set_cons_zero, List.set_cons_succ]
      refine wpAnyH_done (by kernel_rfl) ?_ _
      refine ⟨rfl, u, s35, .slice (some ⟨w5.heap.size, 0, none⟩) 4 4, ?_, hS7⟩
      simp only [Act.put, List.setIfInBounds_toArray, List.set_cons_zero, List.set_cons_succ]
  · rintro a' w4 ⟨v33, v35, v38, rfl, hb4⟩
    simp only [Act.put, List.setIfInBounds_toArray, List.set_cons_zero, List.set_cons_succ]
    have HO4 : Hid _ := HO3.out.below s3 hb4
    have hs4 := Nat.le_trans s3 hb4.size
    have hr : 0 ≤ (65535 - sumW 0 (wordsL (ph 17 (8 + (data.length : Int)) ++ (w2 src ++ w2 dst ++ w2 (8 + (data.length : Int)) ++ ([0, 0] ++ data))))) ∧ (65535 - sumW 0 (wordsL (ph 17 (8 + (data.length : Int)) ++ (w2 src ++ w2 dst ++ w2 (8 + (data.length : Int)) ++ ([0, 0] ++ data))))) ≤ 65535 := by
      have := sumW_range (wordsL (ph 17 (8 + (data.length : Int)) ++ (w2 src ++ w2 dst ++ w2 (8 + (data.length : Int)) ++ ([0, 0] ++ data)))) 0 (by decide) (wordsL_words ((HPF.out 17 (8 + (data.length : Int)) (by decide) (by omega)).append (HFIT3.out.append ((fit_of [0, 0] rfl).append HFD.out))))
      omega
    have HRU : Hid (rudpL ph src dst data = w2 src ++ w2 dst ++ w2 (8 + (data.length : Int)) ++ w2 (nz (65535 - sumW 0 (wordsL (ph 17 (8 + (data.length : Int)) ++ (w2 src ++ w2 dst ++ w2 (8 + (data.length : Int)) ++ ([0, 0] ++ data)))))) ++ data) := rfl
    generalize (65535 - sumW 0 (wordsL (ph 17 (8 + (data.length : Int)) ++ (w2 src ++ w2 dst ++ w2 (8 + (data.length : Int)) ++ ([0, 0] ++ data))))) = ck at *
    have hrn := nz_range hr
    clear hb4 HPS HO3
    by_cases hk : ck = 0
    · subst hk
      have hnz : nz 0 = 65535 := rfl
      go_wp2_with fail
      have hS0 : Below W0.heap.size W0 w4.drew := HO4.out.bel.drew
      have o4 : OB W0.heap.size W0 w4.drew (.slice ab 6 cb) (w2 src ++ w2 dst ++ w2 (8 + (data.length : Int))) := ⟨HO4.out.own, hS0⟩
      have hv : 0 ≤ (65535 : Int) ∧ (65535 : Int) ≤ 65535 := by omega
      refine wp_region_held (S := fun W => Below W0.heap.size W0 W) (by kernel_rfl) ?_
      show wpAnyH _ _ _ _ _ 9 (Array.replicate 9 false) _ w4.drew
      refine take_one (i := 0) (d := some 42) (v := .slice ab 6 cb) rfl rfl rfl (by kernel_rfl) (by kernel_rfl) (by kernel_rfl) (fun _ _ d _ _ h => by cases d <;> exact h) (fun W hS => ex_move (.tmp 9) rfl rfl) hS0 ?_
      simp only [Act.put, List.setIfInBounds_toArray, List.set_cons_zero, List.set_cons_succ]
      refine take_one (i := 1) (d := some 43) (v := .int .u16 65535) rfl rfl rfl (by kernel_rfl) (by kernel_rfl) (by kernel_rfl) (fun _ _ d _ _ h => by cases d <;> exact h) (fun W hS => ex_move (.tmp 10) rfl rfl) hS0 ?_
      simp only [Act.put, List.setIfInBounds_toArray, List.set_cons_zero, List.set_cons_succ]
      refine take_one (i := 2) (d := some 44) (v := .int .u64 65535) rfl rfl rfl (by kernel_rfl) (by kernel_rfl) (by kernel_rfl) (fun _ _ d _ _ h => by cases d <;> exact h) (fun W hS => ex_u64 (.tmp 43) (k := .u16) rfl (.inl ⟨rfl, rfl⟩) rfl (by omega)) hS0 ?_
      simp only [Act.put, List.setIfInBounds_toArray, List.set_cons_zero, List.set_cons_succ]
      refine take_one (i := 4) (d := some 46) (v := .pointer (some ⟨w.heap.size, 2, none⟩)) rfl rfl rfl (by kernel_rfl) (by kernel_rfl) (by kernel_rfl) (fun _ _ d _ _ h => by cases d <;> exact h) (fun W hS => ex_fieldU 5 2 rfl rfl (.inr (.inr rfl))) hS0 ?_
      simp only [Act.put, List.setIfInBounds_toArray, List.set_cons_zero, List.set_cons_succ]
      refine take_one (i := 5) (d := some 47) (v := .slice av data.length kv) rfl rfl rfl (by kernel_rfl) (by kernel_rfl) (by kernel_rfl) (fun _ _ d _ _ h => by cases d <;> exact h) (fun W hS => ex_load 46 rfl rfl (K2.out W hS) ⟨_, _, _, rfl⟩) hS0 ?_
      simp only [Act.put, List.setIfInBounds_toArray, List.set_cons_zero, List.set_cons_succ]
      refine all_one (i := 3) (by kernel_rfl) rfl rfl ?_
      refine wp_call (d := some 45) 43 _ rfl (by kernel_rfl) (put_calls o4 hs4 65535 (by omega) 2 (by decide) (by rw [hlen3]; decide)) ?_
      rintro v5 w5 ⟨o5, s5, st5⟩
      refine ⟨o5.bel, ?_⟩
      rw [putB_two hv] at o5
      simp only [Act.put, List.setIfInBounds_toArray, List.set_cons_zero, List.set_cons_succ]
      obtain ⟨v6, w6, hr6, o6, s6, _⟩ := ob_app2 o5 s5 (HD.out w5 o5.bel) (by simp [w2]; omega) 29
      refine all_one (i := 6) (by kernel_rfl) rfl rfl ?_
      refine wp_append (d := some 48) (.tmp 45) (.tmp 47) 29 rfl rfl rfl rfl hr6 ⟨o6.bel, ?_⟩
      simp only [Act.put, List.setIfInBounds_toArray, List.set_cons_zero, List.set_cons_succ]
      refine take_one (i := 7) (d := some 6) (v := v6) rfl rfl rfl (by kernel_rfl) (by kernel_rfl) (by kernel_rfl) (fun _ _ d _ _ h => by cases d <;> exact h) (fun W hS => ex_assign (.tmp 48) rfl rfl) o6.bel ?_
      simp only [Act.put, List.setIfInBounds_toArray, List.set_cons_zero, List.set_cons_succ]
      refine take_one (i := 8) (d := some 7) (v := .int .i64 0) rfl rfl rfl (by kernel_rfl) (by kernel_rfl) (by kernel_rfl) (fun _ _ d _ _ h => by cases d <;> exact h) (fun W hS => ex_assign (.const (.int .i64 0)) rfl rfl) o6.bel ?_
      simp only [Act.put, List.setIfInBounds_toArray, List.set_cons_zero, List.set_cons_succ]
      refine wpAnyH_done (by kernel_rfl) ?_ _
      have H6 : Hid (OB w.heap.size w w6 v6 (rudpL ph src dst data)) := by
        have := o6.lower HB0.out HB0.out.size
        show OB w.heap.size w w6 v6 (rudpL ph src dst data)
        rw [HRU.out, hnz]
        exact this
      clear o5 o6 st5 o4 HO4
      go_wp2
      go_ret2
      exact ⟨_, rfl, H6.out⟩
    · have hnz : nz ck = ck := if_neg hk
      have hq0 : (ck == 0) = false := by simpa using hk
      go_wp2_with fail
      have hS0 : Below W0.heap.size W0 w4.drew := HO4.out.bel.drew
      have o4 : OB W0.heap.size W0 w4.drew (.slice ab 6 cb) (w2 src ++ w2 dst ++ w2 (8 + (data.length : Int))) := ⟨HO4.out.own, hS0⟩
      have hv : 0 ≤ (ck : Int) ∧ (ck : Int) ≤ 65535 := by omega
      refine wp_region_held (S := fun W => Below W0.heap.size W0 W) (by kernel_rfl) ?_
      show wpAnyH _ _ _ _ _ 9 (Array.replicate 9 false) _ w4.drew
      refine take_one (i := 0) (d := some 42) (v := .slice ab 6 cb) rfl rfl rfl (by kernel_rfl) (by kernel_rfl) (by kernel_rfl) (fun _ _ d _ _ h => by cases d <;> exact h) (fun W hS => ex_move (.tmp 9) rfl rfl) hS0 ?_
      simp only [Act.put, List.setIfInBounds_toArray, List.set_cons_zero, List.set_cons_succ]
      refine take_one (i := 1) (d := some 43) (v := .int .u16 ck) rfl rfl rfl (by kernel_rfl) (by kernel_rfl) (by kernel_rfl) (fun _ _ d _ _ h => by cases d <;> exact h) (fun W hS => ex_move (.tmp 10) rfl rfl) hS0 ?_
      simp only [Act.put, List.setIfInBounds_toArray, List.set_cons_zero, List.set_cons_succ]
      refine take_one (i := 2) (d := some 44) (v := .int .u64 ck) rfl rfl rfl (by kernel_rfl) (by kernel_rfl) (by kernel_rfl) (fun _ _ d _ _ h => by cases d <;> exact h) (fun W hS => ex_u64 (.tmp 43) (k := .u16) rfl (.inl ⟨rfl, rfl⟩) rfl (by omega)) hS0 ?_
      simp only [Act.put, List.setIfInBounds_toArray, List.set_cons_zero, List.set_cons_succ]
      refine take_one (i := 4) (d := some 46) (v := .pointer (some ⟨w.heap.size, 2, none⟩)) rfl rfl rfl (by kernel_rfl) (by kernel_rfl) (by kernel_rfl) (fun _ _ d _ _ h => by cases d <;> exact h) (fun W hS => ex_fieldU 5 2 rfl rfl (.inr (.inr rfl))) hS0 ?_
      simp only [Act.put, List.setIfInBounds_toArray, List.set_cons_zero, List.set_cons_succ]
      refine take_one (i := 5) (d := some 47) (v := .slice av data.length kv) rfl rfl rfl (by kernel_rfl) (by kernel_rfl) (by kernel_rfl) (fun _ _ d _ _ h => by cases d <;> exact h) (fun W hS => ex_load 46 rfl rfl (K2.out W hS) ⟨_, _, _, rfl⟩) hS0 ?_
      simp only [Act.put, List.setIfInBounds_toArray, List.set_cons_zero, List.set_cons_succ]
      refine all_one (i := 3) (by kernel_rfl) rfl rfl ?_
      refine wp_call (d := some 45) 43 _ rfl (by kernel_rfl) (put_calls o4 hs4 ck (by omega) 2 (by decide) (by rw [hlen3]; decide)) ?_
      rintro v5 w5 ⟨o5, s5, st5⟩
      refine ⟨o5.bel, ?_⟩
      rw [putB_two hv] at o5
      simp only [Act.put, List.setIfInBounds_toArray, List.set_cons_zero, List.set_cons_succ]
      obtain ⟨v6, w6, hr6, o6, s6, _⟩ := ob_app2 o5 s5 (HD.out w5 o5.bel) (by simp [w2]; omega) 29
      refine all_one (i := 6) (by kernel_rfl) rfl rfl ?_
      refine wp_append (d := some 48) (.tmp 45) (.tmp 47) 29 rfl rfl rfl rfl hr6 ⟨o6.bel, ?_⟩
      simp only [Act.put, List.setIfInBounds_toArray, List.set_cons_zero, List.set_cons_succ]
      refine take_one (i := 7) (d := some 6) (v := v6) rfl rfl rfl (by kernel_rfl) (by kernel_rfl) (by kernel_rfl) (fun _ _ d _ _ h => by cases d <;> exact h) (fun W hS => ex_assign (.tmp 48) rfl rfl) o6.bel ?_
      simp only [Act.put, List.setIfInBounds_toArray, List.set_cons_zero, List.set_cons_succ]
      refine take_one (i := 8) (d := some 7) (v := .int .i64 0) rfl rfl rfl (by kernel_rfl) (by kernel_rfl) (by kernel_rfl) (fun _ _ d _ _ h => by cases d <;> exact h) (fun W hS => ex_assign (.const (.int .i64 0)) rfl rfl) o6.bel ?_
      simp only [Act.put, List.setIfInBounds_toArray, List.set_cons_zero, List.set_cons_succ]
      refine wpAnyH_done (by kernel_rfl) ?_ _
      have H6 : Hid (OB w.heap.size w w6 v6 (rudpL ph src dst data)) := by
        have := o6.lower HB0.out HB0.out.size
        show OB w.heap.size w w6 v6 (rudpL ph src dst data)
        rw [HRU.out, hnz]
        exact this
      clear o5 o6 st5 o4 HO4
      go_wp2
      go_ret2
      exact ⟨_, rfl, H6.out⟩

end Go.Proofs.Ytnlaomjhnndblaa
