/-
  The document's ParseTCP: the sum, and what it reads.
-/
import Derived.Test.YtlhmelkgnpjgaaaSl5
namespace Go.Proofs.Ytlhmelkgnpjgaaa
open Go Go.RowKit Go.Shelf
set_option linter.unusedVariables false
set_option linter.unusedSimpArgs false

theorem getB_four (zs : List Int) (k : Nat) : getB zs k 4 = lg zs k := by
  simp only [getB, lg, wd2, Nat.add_zero]
  rw [show k + 2 + 1 = k + 3 from rfl]
  omega
theorem ex_cv32 {o : Oper} {a : Act} {W : World} (p : Operand) {x : Int} (hop : o.op = Op.convert 77 32 p) (hp : a.eval p = .int .u64 x) (hx : 0 ≤ x ∧ x ≤ 4294967295) :
    (execOp a.eval o).run Try.prog W = .ok (.value (.int .u32 x)) W := by
  have e : IntKind.u32.wrap x = x := by rw [IntKind.wrap_u32]; omega
  generalize a.eval = ev at *
  simp [execOp, hop, hp, go_sem, e]
theorem ex_index {o : Oper} {a : Act} {W : World} (k : Nat) (j : Nat) {b off len cap : Nat} (hop : o.op = Op.indexAddr 29 (.tmp k) (.const (.int .i64 (j : Int)))) (hk : a.eval (.tmp k) = .slice (some ⟨b, off, none⟩) len cap) (hj : j < len) :
    (execOp a.eval o).run Try.prog W = .ok (.value (.pointer (some ⟨b, off + j, none⟩))) W := by
  have hc : a.eval (.const (.int .i64 (j : Int))) = .int .i64 (j : Int) := rfl
  have h1 : ((j : Int) < (len : Int)) := by omega
  generalize a.eval = ev at *
  simp [execOp, hop, hk, hc, go_sem, h1, hj]
theorem ex_load8 {o : Oper} {a : Act} {W : World} (k : Nat) {p : Addr} {x : Int} (hop : o.op = Op.load 5 (.tmp k)) (hk : a.eval (.tmp k) = .pointer (some p)) (hc : W.cell? p = some (.int .u8 x)) :
    (execOp a.eval o).run Try.prog W = .ok (.value (.int .u8 x)) W := by
  generalize a.eval = ev at *
  simp [execOp, hop, hk, go_sem, hc]
theorem ex_rem64 {o : Oper} {a : Act} {W : World} (k : Nat) {t : TypeId} {x : Int} (hop : o.op = Op.binOp .rem 5 (.tmp k) (.const (.int .u8 64)) t) (hk : a.eval (.tmp k) = .int .u8 x) (hx : 0 ≤ x ∧ x < 256) :
    (execOp a.eval o).run Try.prog W = .ok (.value (.int .u8 (x % 64))) W := by
  have hc : a.eval (.const (.int .u8 64)) = .int .u8 64 := rfl
  have e : x.tmod 64 = x % 64 := Int.tmod_eq_emod_of_nonneg hx.1
  have e2 : IntKind.u8.wrap (x % 64) = x % 64 := by rw [IntKind.wrap_u8]; omega
  generalize a.eval = ev at *
  simp [execOp, hop, hk, hc, go_sem, e, e2]
theorem ex_buildT {o : Oper} {a : Act} {W : World} {a0 a2 a4 a8 a13 a14 a18 : Int} (hop : o.op = Op.build 34 #[(0, .tmp 45), (1, .tmp 48), (2, .tmp 51), (3, .tmp 54), (4, .tmp 58), (5, .tmp 61), (6, .tmp 64)]) (h0 : a.eval (.tmp 45) = .int .u16 a0) (h1 : a.eval (.tmp 48) = .int .u16 a2) (h2 : a.eval (.tmp 51) = .int .u32 a4) (h3 : a.eval (.tmp 54) = .int .u32 a8) (h4 : a.eval (.tmp 58) = .int .u8 a13) (h5 : a.eval (.tmp 61) = .int .u16 a14) (h6 : a.eval (.tmp 64) = .int .u16 a18) :
    (execOp a.eval o).run Try.prog W = .ok (.value (.agg #[.int .u16 a0, .int .u16 a2, .int .u32 a4, .int .u32 a8, .int .u8 a13, .int .u16 a14, .int .u16 a18, .slice none 0 0, .slice none 0 0])) W := by
  generalize a.eval = ev at *
  simp [execOp, hop, h0, h1, h2, h3, h4, h5, h6, go_sem]
theorem arm_append {w w2 : World} {ops : Array Oper} {rest : List Oper} {o : Oper} {a : Act} {Q : Exit → Act → World → Prop} (hg : Region.wanted o (yielded ops a.tmps) = true) (s x : Operand) (t : TypeId) (hop : o.op = Op.call { callee := Callee.builtin Builtin.append, args := #[s, x], argTypes := #[t, t] }) {vs vx v : Value} (hs : a.eval s = vs) (hx : a.eval x = vx) (hrun : (Builtin.append_ #[t, t] o.type #[vs, vx]).run Try.prog w = .ok v w2) (hK : wpList Try.prog ops Q rest (a.put o.dst v) w2) : wpList Try.prog ops Q (o :: rest) a w := by
  refine BigFrame.wpList_want hg fun K hK' => ?_
  exact wp_append s x t hop rfl hs hx hrun (hK' _ _ hK)
theorem alloc_tcp {o : Oper} {a : Act} {d : Option Nat} {w : World} {K : Act → World → Prop} {Q : Exit → Act → World → Prop} (hop : o.op = Op.alloc 34) (hd : o.dst = d) (hK : K (a.put d (.pointer (some ⟨w.heap.size, 0, none⟩))) (w.alloc (.cells [.int .u16 0, .int .u16 0, .int .u32 0, .int .u32 0, .int .u8 0, .int .u16 0, .int .u16 0, .slice none 0 0, .slice none 0 0].toArray 34))) : o.wp Try.prog a w K Q := by
  subst hd
  unfold Oper.wp
  simp [execOp, hop, go_sem]
  exact hK

set_option maxHeartbeats 8000000 in
set_option maxRecDepth 100000 in
theorem RParseTCP_more (sv dv : Value) (N : Nat) (ph : Int → Int → List Int) (hN : N ≤ 1000) (v : Value) (zs : List Int) (n : Nat) (w : World) (he : EndV w sv dv N ph) (h : RowC w v zs) (hn : 20 ≤ zs.length) (hlen : zs.length ≤ 65535) (hH : hdL zs = 20 + (n : Int)) (hnl : 20 + n ≤ zs.length) (er : Int) (her : er = if sumW 0 (wordsL (ph 6 zs.length ++ zs)) = 65535 then 0 else 62) :
    Calls Try.prog 25 #[sv, dv, v] w fun e w' => Below w.heap.size w w' ∧ ((er ≠ 0 → e = .returned (.tuple #[.agg #[.int .u16 0, .int .u16 0, .int .u32 0, .int .u32 0, .int .u8 0, .int .u16 0, .int .u16 0, .slice none 0 0, .slice none 0 0], .int .i64 er])) ∧ (er = 0 → ∃ vo vd, e = .returned (.tuple #[.agg #[.int .u16 (wd2 zs 0), .int .u16 (wd2 zs 2), .int .u32 (lg zs 4), .int .u32 (lg zs 8), .int .u8 (flg zs), .int .u16 (wd2 zs 14), .int .u16 (wd2 zs 18), vo, vd], .int .i64 0]) ∧ BytesAt w'.heap.size w' vo ((zs.drop 20).take n) ∧ BytesAt w'.heap.size w' vd ((zs.drop 20).drop n) ∧ New w vo ((zs.drop 20).take n) ∧ New w vd ((zs.drop 20).drop n))) := by
  obtain ⟨W0, hW0⟩ : ∃ W0, w.alloc (.cells [.int .u16 0, .int .u16 0, .int .u32 0, .int .u32 0, .int .u8 0, .int .u16 0, .int .u16 0, .slice none 0 0, .slice none 0 0].toArray 34) = W0 := ⟨_, rfl⟩
  have b0 := blk_new w (.cells [.int .u16 0, .int .u16 0, .int .u32 0, .int .u32 0, .int .u8 0, .int .u16 0, .int .u16 0, .slice none 0 0, .slice none 0 0].toArray 34)
  have hB0 := (Below.refl w.heap.size w).alloc (Nat.le_refl _) (.cells [.int .u16 0, .int .u16 0, .int .u32 0, .int .u32 0, .int .u8 0, .int .u16 0, .int .u16 0, .slice none 0 0, .slice none 0 0].toArray 34)
  have hs0 : W0.heap.size = w.heap.size + 1 := by rw [← hW0]; simp
  rw [hW0] at b0 hB0
  obtain ⟨sa, cs, rfl⟩ := he.sval
  obtain ⟨da, cd, rfl⟩ := he.dval
  have HG2 : Hid (∀ (k : Nat), k + 2 ≤ 20 → ∀ W, Below W0.heap.size W0 W → Calls Try.prog 51 #[v, .int .i64 k, .int .i64 2] W fun e w' => ∃ q, e = .returned q ∧ (q = .int .u64 (wd2 zs k) ∧ w' = W)) := fun k hk W hW => (get_calls v zs k 2 W ((h.on (hB0.trans (hW.mono hB0.size))).bytes) (by decide) (by omega)).mono (fun e w' h => ⟨_, h.1, by rw [getB_two], h.2⟩)
  have HG4 : Hid (∀ (k : Nat), k + 4 ≤ 20 → ∀ W, Below W0.heap.size W0 W → Calls Try.prog 51 #[v, .int .i64 k, .int .i64 4] W fun e w' => ∃ q, e = .returned q ∧ (q = .int .u64 (lg zs k) ∧ w' = W)) := fun k hk W hW => (get_calls v zs k 4 W ((h.on (hB0.trans (hW.mono hB0.size))).bytes) (by decide) (by omega)).mono (fun e w' h => ⟨_, h.1, by rw [getB_four], h.2⟩)
  have HPS : Hid (Calls Try.prog 40 #[.slice sa N cs, .slice da N cd, .int .u8 6, .int .i64 zs.length] W0 fun e w' => ∃ u, e = .returned u ∧ (BytesAt w'.heap.size w' u (ph 6 zs.length) ∧ Below W0.heap.size W0 w')) := he.tells W0 hB0 6 _ (by decide) (by omega)
  have hev := (he.even 6 zs.length).1
  have hflat : [ph 6 zs.length, zs].flatten = ph 6 zs.length ++ zs := by simp
  have HF : Hid (∀ W u, BytesAt W.heap.size W u (ph 6 zs.length) → Below W0.heap.size W0 W → Calls Try.prog 39 #[.slice (some ⟨W.heap.size, 0, none⟩) 2 2] (W.alloc (.cells #[u, v] 29)) fun e w' => e = .returned (.int .u16 (sumW 0 (wordsL (ph 6 zs.length ++ zs)))) ∧ Below W.heap.size W w') := fun W u hu' hW => (fold_ref _ _ _ _ _ (parts_two W _ _ _ _ _ hu' ((h.on (hB0.trans (hW.mono hB0.size))).bytes)) (by rw [hflat, List.length_append]; omega)).mono (fun e w' h => ⟨by rw [h.1, hflat], ((Below.refl _ W).alloc (Nat.le_refl _) _).trans (h.2.mono (by simp))⟩)
  obtain ⟨b, off, cap, hS⟩ := h.rowS (by omega)
  have hv := hS.val
  subst hv
  have hroom := hS.room
  have g12 := hS.fit.gz 12
  have g13 := hS.fit.gz 13
  have HC12 : Hid (∀ W, Below W0.heap.size W0 W → W.cell? ⟨b, off + 12, none⟩ = some (.int .u8 (gz zs 12))) := fun W hW => ((hB0.trans (hW.mono hB0.size)).cell (p := ⟨b, off + 12, none⟩) hS.lt).trans (hS.cell 12 (by omega))
  have HC13 : Hid (∀ W, Below W0.heap.size W0 W → W.cell? ⟨b, off + 13, none⟩ = some (.int .u8 (gz zs 13))) := fun W hW => ((hB0.trans (hW.mono hB0.size)).cell (p := ⟨b, off + 13, none⟩) hS.lt).trans (hS.cell 13 (by omega))
  have c12 := HC12.out W0 (Below.refl _ _)
  have q : decide ((zs.length : Int) < 20) = false := by simp; omega
  have t12 : (gz zs 12).tdiv 16 = gz zs 12 / 16 := Int.tdiv_eq_ediv_of_nonneg g12.1
  have m12 : gz zs 12 / 16 * 4 = 20 + (n : Int) := hH
  have i12 : (12 : Int) < (zs.length : Int) := by omega
  have w1' : (gz zs 12 / 16) % 256 = gz zs 12 / 16 := by omega
  have q1 : decide (20 + (n : Int) < 20) = false := by simp; omega
  have q2 : decide (20 + (n : Int) > (zs.length : Int)) = false := by simp; omega
  have q3 : decide ((zs.length : Int) > 65535) = false := by simp; omega
  have B0 : Hid (∀ W, Below W0.heap.size W0 W → W.heap[w.heap.size]? = some (.cells [.int .u16 0, .int .u16 0, .int .u32 0, .int .u32 0, .int .u8 0, .int .u16 0, .int .u16 0, .slice none 0 0, .slice none 0 0].toArray 34)) := fun W hW => blk_on b0 hW
  have HB0 : Hid _ := hB0
  have htk : RowS w _ ((zs.drop 20).take n) b (nxt off cap 20) (cap - 20) := RowS.take (s := .slice (some ⟨b, nxt off cap 20, none⟩) (zs.length - 20) (cap - 20)) (by have k := hS.rest 20 hn; rw [restV_eq] at k; exact k) n (by simp; omega)
  have HOPT : Hid (∀ W, Below W0.heap.size W0 W → BytesAt W.heap.size W (.slice (some ⟨b, nxt off cap 20, none⟩) n (cap - 20)) ((zs.drop 20).take n)) := fun W hW => htk.row.bytes.later (hB0.trans (hW.mono hB0.size))
  have hdt := hS.rest (20 + n) hnl
  rw [restV_eq] at hdt
  have HDAT : Hid (∀ W, Below W0.heap.size W0 W → BytesAt W.heap.size W (.slice (some ⟨b, nxt off cap (20 + n), none⟩) (zs.length - (20 + n)) (cap - (20 + n))) ((zs.drop 20).drop n)) := fun W hW => by
    rw [List.drop_drop]
    exact hdt.row.bytes.later (hB0.trans (hW.mono hB0.size))
  have HSM : Hid (∀ w : World, (Instr.sliceAt 29 (.slice (some ⟨b, off, none⟩) zs.length cap) (some (.int .i64 20)) (some (.int .i64 (20 + (n : Int)))) none).run Try.prog w = .ok (.slice (some ⟨b, nxt off cap 20, none⟩) n (cap - 20)) w) := fun w => by
    have k := slice_mid b off zs.length cap (20 + n) w (by omega) hnl hroom
    rw [show 20 + n - 20 = n by omega, show ((20 + n : Nat) : Int) = 20 + (n : Int) by omega] at k
    exact k
  have HSE : Hid (∀ w : World, (Instr.sliceAt 29 (.slice (some ⟨b, off, none⟩) zs.length cap) (some (.int .i64 (20 + (n : Int)))) none none).run Try.prog w = .ok (.slice (some ⟨b, nxt off cap (20 + n), none⟩) (zs.length - (20 + n)) (cap - (20 + n))) w) := fun w => by
    have k := slice_end b off zs.length cap (20 + n) w hnl hroom
    rw [show ((20 + n : Nat) : Int) = 20 + (n : Int) by omega] at k
    exact k
  have HR2 : Hid (∀ k, 0 ≤ wd2 zs k ∧ wd2 zs k ≤ 65535) := fun k => wd2_range hS.fit k
  have HR4 : Hid (∀ k, 0 ≤ lg zs k ∧ lg zs k ≤ 4294967295) := fun k => lg_range hS.fit k
  generalize sumW 0 (wordsL (ph 6 zs.length ++ zs)) = sm at *
  clear h he b0 hB0 hev hflat htk hdt hH hS
  go_enter Try.func25, Try.ntmps25
  go_wp2_with fail
  refine Calls.mono HPS.out ?_
  rintro _ w3 ⟨u, rfl, hu, hb3⟩
  obtain ⟨au, cu, eu, _⟩ := hu.val
  subst eu
  have HF3 : Hid _ := HF.out w3 _ hu hb3
  generalize (ph 6 zs.length).length = lu at *
  clear hu HF HPS
  go_wp2_with fail
  refine Calls.mono HF3.out ?_
  rintro _ w4 ⟨rfl, hb4⟩
  have hx4 := hb3.trans (hb4.mono hb3.size)
  clear HF3 hb4 hb3
  by_cases hs : sm = 65535
  · subst hs
    have HER : er = 0 := by rw [her]; simp
    subst HER
    clear her
    have hdA : Below W0.heap.size W0 w4.drew := hx4.drew
    have hdB : Below W0.heap.size W0 (w4.drew.alloc (.cells [.int .u16 0, .int .u16 0, .int .u32 0, .int .u32 0, .int .u8 0, .int .u16 0, .int .u16 0, .slice none 0 0, .slice none 0 0].toArray 34)) := hdA.alloc hdA.size _
    have hdr : Below w4.heap.size w4 w4.drew := (Below.refl _ w4).drew
    obtain ⟨wS, hstS, bS, hbS⟩ := box_new Try.sizeOf34 w4.drew [.int .u16 0, .int .u16 0, .int .u32 0, .int .u32 0, .int .u8 0, .int .u16 0, .int .u16 0, .slice none 0 0, .slice none 0 0] rfl [.int .u16 (wd2 zs 0), .int .u16 (wd2 zs 2), .int .u32 (lg zs 4), .int .u32 (lg zs 8), .int .u8 (flg zs), .int .u16 (wd2 zs 14), .int .u16 (wd2 zs 18), .slice none 0 0, .slice none 0 0] rfl (by simp [Value.oneCell'])
    replace bS : wS.heap[w4.heap.size]? = some (.cells [.int .u16 (wd2 zs 0), .int .u16 (wd2 zs 2), .int .u32 (lg zs 4), .int .u32 (lg zs 8), .int .u8 (flg zs), .int .u16 (wd2 zs 14), .int .u16 (wd2 zs 18), .slice none 0 0, .slice none 0 0].toArray 34) := bS
    have hdS : Below W0.heap.size W0 wS := hdA.trans (hbS.mono hdA.size)
    have HHS : Hid (w4.heap.size < wS.heap.size) := (Array.getElem?_eq_some_iff.1 bS).1
    have hfl : gz zs 13 % 64 = flg zs := rfl
    go_wp2_with fail
    refine region_mid (fun a a' w' => a' = ((((((((((((((((((((((((a.put (some 43) (.slice (some ⟨b, off, none⟩) zs.length cap)).put (some 46) (.slice (some ⟨b, off, none⟩) zs.length cap)).put (some 49) (.slice (some ⟨b, off, none⟩) zs.length cap)).put (some 52) (.slice (some ⟨b, off, none⟩) zs.length cap)).put (some 55) (.slice (some ⟨b, off, none⟩) zs.length cap)).put (some 56) (.pointer (some ⟨b, off + 13, none⟩))).put (some 57) (.int .u8 (gz zs 13))).put (some 58) (.int .u8 (flg zs))).put (some 59) (.slice (some ⟨b, off, none⟩) zs.length cap)).put (some 62) (.slice (some ⟨b, off, none⟩) zs.length cap)).put (some 44) (.int .u64 (wd2 zs 0))).put (some 45) (.int .u16 (wd2 zs 0))).put (some 47) (.int .u64 (wd2 zs 2))).put (some 48) (.int .u16 (wd2 zs 2))).put (some 50) (.int .u64 (lg zs 4))).put (some 51) (.int .u32 (lg zs 4))).put (some 53) (.int .u64 (lg zs 8))).put (some 54) (.int .u32 (lg zs 8))).put (some 60) (.int .u64 (wd2 zs 14))).put (some 61) (.int .u16 (wd2 zs 14))).put (some 63) (.int .u64 (wd2 zs 18))).put (some 64) (.int .u16 (wd2 zs 18))).put (some 65) (.agg #[.int .u16 (wd2 zs 0), .int .u16 (wd2 zs 2), .int .u32 (lg zs 4), .int .u32 (lg zs 8), .int .u8 (flg zs), .int .u16 (wd2 zs 14), .int .u16 (wd2 zs 18), .slice none 0 0, .slice none 0 0])).put (some 9) (.pointer (some ⟨w4.heap.size, 0, none⟩))) ∧ w' = wS) ?_ ?_
    · skip
      refine wp_region_held (S := fun W => Below W0.heap.size W0 W) (by kernel_rfl) ?_
      show wpAnyH _ _ _ _ _ 25 (Array.replicate 25 false) _ w4.drew
      refine take_one (i := 0) (d := some 43) (v := .slice (some ⟨b, off, none⟩) zs.length cap) rfl rfl rfl (by kernel_rfl) (by kernel_rfl) (by kernel_rfl) (fun _ _ _ _ _ h => absurd h.1 (by simp)) (fun W hS => ex_move (.tmp 2) rfl rfl) hdA ?_
      simp only [Act.put, List.setIfInBounds_toArray, List.set_cons_zero, List.set_cons_succ]
      refine take_one (i := 3) (d := some 46) (v := .slice (some ⟨b, off, none⟩) zs.length cap) rfl rfl rfl (by kernel_rfl) (by kernel_rfl) (by kernel_rfl) (fun _ _ _ _ _ h => absurd h.1 (by simp)) (fun W hS => ex_move (.tmp 2) rfl rfl) hdA ?_
      simp only [Act.put, List.setIfInBounds_toArray, List.set_cons_zero, List.set_cons_succ]
      refine take_one (i := 6) (d := some 49) (v := .slice (some ⟨b, off, none⟩) zs.length cap) rfl rfl rfl (by kernel_rfl) (by kernel_rfl) (by kernel_rfl) (fun _ _ _ _ _ h => absurd h.1 (by simp)) (fun W hS => ex_move (.tmp 2) rfl rfl) hdA ?_
      simp only [Act.put, List.setIfInBounds_toArray, List.set_cons_zero, List.set_cons_succ]
      refine take_one (i := 9) (d := some 52) (v := .slice (some ⟨b, off, none⟩) zs.length cap) rfl rfl rfl (by kernel_rfl) (by kernel_rfl) (by kernel_rfl) (fun _ _ _ _ _ h => absurd h.1 (by simp)) (fun W hS => ex_move (.tmp 2) rfl rfl) hdA ?_
      simp only [Act.put, List.setIfInBounds_toArray, List.set_cons_zero, List.set_cons_succ]
      refine take_one (i := 12) (d := some 55) (v := .slice (some ⟨b, off, none⟩) zs.length cap) rfl rfl rfl (by kernel_rfl) (by kernel_rfl) (by kernel_rfl) (fun _ _ _ _ _ h => absurd h.1 (by simp)) (fun W hS => ex_move (.tmp 2) rfl rfl) hdA ?_
      simp only [Act.put, List.setIfInBounds_toArray, List.set_cons_zero, List.set_cons_succ]
      refine take_one (i := 13) (d := some 56) (v := .pointer (some ⟨b, off + 13, none⟩)) rfl rfl rfl (by kernel_rfl) (by kernel_rfl) (by kernel_rfl) (fun _ _ _ _ _ h => absurd h.1 (by simp)) (fun W hS => ex_index 55 13 rfl rfl (by omega)) hdA ?_
      simp only [Act.put, List.setIfInBounds_toArray, List.set_cons_zero, List.set_cons_succ]
      refine take_one (i := 14) (d := some 57) (v := .int .u8 (gz zs 13)) rfl rfl rfl (by kernel_rfl) (by kernel_rfl) (by kernel_rfl) (fun _ _ _ _ _ h => absurd h.1 (by simp)) (fun W hS => ex_load8 56 rfl rfl (HC13.out W hS)) hdA ?_
      simp only [Act.put, List.setIfInBounds_toArray, List.set_cons_zero, List.set_cons_succ]
      refine take_one (i := 15) (d := some 58) (v := .int .u8 (flg zs)) rfl rfl rfl (by kernel_rfl) (by kernel_rfl) (by kernel_rfl) (fun _ _ _ _ _ h => absurd h.1 (by simp)) (fun W hS => (by rw [← hfl]; exact ex_rem64 57 rfl rfl g13)) hdA ?_
      simp only [Act.put, List.setIfInBounds_toArray, List.set_cons_zero, List.set_cons_succ]
      refine take_one (i := 16) (d := some 59) (v := .slice (some ⟨b, off, none⟩) zs.length cap) rfl rfl rfl (by kernel_rfl) (by kernel_rfl) (by kernel_rfl) (fun _ _ _ _ _ h => absurd h.1 (by simp)) (fun W hS => ex_move (.tmp 2) rfl rfl) hdA ?_
      simp only [Act.put, List.setIfInBounds_toArray, List.set_cons_zero, List.set_cons_succ]
      refine take_one (i := 19) (d := some 62) (v := .slice (some ⟨b, off, none⟩) zs.length cap) rfl rfl rfl (by kernel_rfl) (by kernel_rfl) (by kernel_rfl) (fun _ _ _ _ _ h => absurd h.1 (by simp)) (fun W hS => ex_move (.tmp 2) rfl rfl) hdA ?_
      simp only [Act.put, List.setIfInBounds_toArray, List.set_cons_zero, List.set_cons_succ]
      refine all_two (i1 := 1) (i2 := 23) (by kernel_rfl) rfl rfl rfl rfl ?_ ?_
      · skip
        refine wp_call (d := some 44) 51 _ rfl (by kernel_rfl) (HG2.out 0 (by decide) _ hdA) ?_
        rintro _ _ ⟨rfl, rfl⟩
        refine ⟨hdA, ?_⟩
        simp only [Act.put, List.setIfInBounds_toArray, List.set_cons_zero, List.set_cons_succ]
        refine take_one (i := 2) (d := some 45) (v := .int .u16 (wd2 zs 0)) rfl rfl rfl (by kernel_rfl) (by kernel_rfl) (by kernel_rfl) (fun _ _ _ _ _ h => absurd h.1 (by simp)) (fun W hS => ex_cv16 (.tmp 44) rfl rfl (HR2.out 0)) hdA ?_
        simp only [Act.put, List.setIfInBounds_toArray, List.set_cons_zero, List.set_cons_succ]
        refine all_two (i1 := 4) (i2 := 23) (by kernel_rfl) rfl rfl rfl rfl ?_ ?_
        · skip
          refine wp_call (d := some 47) 51 _ rfl (by kernel_rfl) (HG2.out 2 (by decide) _ hdA) ?_
          rintro _ _ ⟨rfl, rfl⟩
          refine ⟨hdA, ?_⟩
          simp only [Act.put, List.setIfInBounds_toArray, List.set_cons_zero, List.set_cons_succ]
          refine take_one (i := 5) (d := some 48) (v := .int .u16 (wd2 zs 2)) rfl rfl rfl (by kernel_rfl) (by kernel_rfl) (by kernel_rfl) (fun _ _ _ _ _ h => absurd h.1 (by simp)) (fun W hS => ex_cv16 (.tmp 47) rfl rfl (HR2.out 2)) hdA ?_
          simp only [Act.put, List.setIfInBounds_toArray, List.set_cons_zero, List.set_cons_succ]
          refine all_two (i1 := 7) (i2 := 23) (by kernel_rfl) rfl rfl rfl rfl ?_ ?_
          · skip
            refine wp_call (d := some 50) 51 _ rfl (by kernel_rfl) (HG4.out 4 (by decide) _ hdA) ?_
            rintro _ _ ⟨rfl, rfl⟩
            refine ⟨hdA, ?_⟩
            simp only [Act.put, List.setIfInBounds_toArray, List.set_cons_zero, List.set_cons_succ]
            refine take_one (i := 8) (d := some 51) (v := .int .u32 (lg zs 4)) rfl rfl rfl (by kernel_rfl) (by kernel_rfl) (by kernel_rfl) (fun _ _ _ _ _ h => absurd h.1 (by simp)) (fun W hS => ex_cv32 (.tmp 50) rfl rfl (HR4.out 4)) hdA ?_
            simp only [Act.put, List.setIfInBounds_toArray, List.set_cons_zero, List.set_cons_succ]
            refine all_two (i1 := 10) (i2 := 23) (by kernel_rfl) rfl rfl rfl rfl ?_ ?_
            · skip
              refine wp_call (d := some 53) 51 _ rfl (by kernel_rfl) (HG4.out 8 (by decide) _ hdA) ?_
              rintro _ _ ⟨rfl, rfl⟩
              refine ⟨hdA, ?_⟩
              simp only [Act.put, List.setIfInBounds_toArray, List.set_cons_zero, List.set_cons_succ]
              refine take_one (i := 11) (d := some 54) (v := .int .u32 (lg zs 8)) rfl rfl rfl (by kernel_rfl) (by kernel_rfl) (by kernel_rfl) (fun _ _ _ _ _ h => absurd h.1 (by simp)) (fun W hS => ex_cv32 (.tmp 53) rfl rfl (HR4.out 8)) hdA ?_
              simp only [Act.put, List.setIfInBounds_toArray, List.set_cons_zero, List.set_cons_succ]
              refine all_two (i1 := 17) (i2 := 23) (by kernel_rfl) rfl rfl rfl rfl ?_ ?_
              · skip
                refine wp_call (d := some 60) 51 _ rfl (by kernel_rfl) (HG2.out 14 (by decide) _ hdA) ?_
                rintro _ _ ⟨rfl, rfl⟩
                refine ⟨hdA, ?_⟩
                simp only [Act.put, List.setIfInBounds_toArray, List.set_cons_zero, List.set_cons_succ]
                refine take_one (i := 18) (d := some 61) (v := .int .u16 (wd2 zs 14)) rfl rfl rfl (by kernel_rfl) (by kernel_rfl) (by kernel_rfl) (fun _ _ _ _ _ h => absurd h.1 (by simp)) (fun W hS => ex_cv16 (.tmp 60) rfl rfl (HR2.out 14)) hdA ?_
                simp only [Act.put, List.setIfInBounds_toArray, List.set_cons_zero, List.set_cons_succ]
                refine all_two (i1 := 20) (i2 := 23) (by kernel_rfl) rfl rfl rfl rfl ?_ ?_
                · skip
                  refine wp_call (d := some 63) 51 _ rfl (by kernel_rfl) (HG2.out 18 (by decide) _ hdA) ?_
                  rintro _ _ ⟨rfl, rfl⟩
                  refine ⟨hdA, ?_⟩
                  simp only [Act.put, List.setIfInBounds_toArray, List.set_cons_zero, List.set_cons_succ]
                  refine take_one (i := 21) (d := some 64) (v := .int .u16 (wd2 zs 18)) rfl rfl rfl (by kernel_rfl) (by kernel_rfl) (by kernel_rfl) (fun _ _ _ _ _ h => absurd h.1 (by simp)) (fun W hS => ex_cv16 (.tmp 63) rfl rfl (HR2.out 18)) hdA ?_
                  simp only [Act.put, List.setIfInBounds_toArray, List.set_cons_zero, List.set_cons_succ]
                  refine take_one (i := 22) (d := some 65) (v := .agg #[.int .u16 (wd2 zs 0), .int .u16 (wd2 zs 2), .int .u32 (lg zs 4), .int .u32 (lg zs 8), .int .u8 (flg zs), .int .u16 (wd2 zs 14), .int .u16 (wd2 zs 18), .slice none 0 0, .slice none 0 0]) rfl rfl rfl (by kernel_rfl) (by kernel_rfl) (by kernel_rfl) (fun _ _ _ _ _ h => absurd h.1 (by simp)) (fun W hS => ex_buildT rfl rfl rfl rfl rfl rfl rfl rfl) hdA ?_
                  simp only [Act.put, List.setIfInBounds_toArray, List.set_cons_zero, List.set_cons_succ]
                  refine all_one (i := 23) (by kernel_rfl) rfl rfl ?_
                  refine alloc_tcp (d := some 9) rfl rfl ⟨hdB, ?_⟩
                  simp only [Act.put, List.setIfInBounds_toArray, List.set_cons_zero, List.set_cons_succ]
                  refine all_one (i := 24) (by kernel_rfl) rfl rfl ?_
                  refine store_wp (.tmp 9) (.tmp 65) 34 rfl rfl rfl hstS ⟨hdS, ?_⟩
                  simp only [Act.put, List.setIfInBounds_toArray, List.set_cons_zero, List.set_cons_succ]
                  refine wpAnyH_done (by kernel_rfl) ?_ _
                  exact ⟨rfl, rfl, rfl⟩
                · skip
                  refine alloc_tcp (d := some 9) rfl rfl ⟨hdB, ?_⟩
                  simp only [Act.put, List.setIfInBounds_toArray, List.set_cons_zero, List.set_cons_succ]
                  refine all_one (i := 20) (by kernel_rfl) rfl rfl ?_
                  refine wp_call (d := some 63) 51 _ rfl (by kernel_rfl) (HG2.out 18 (by decide) _ hdB) ?_
                  rintro _ _ ⟨rfl, rfl⟩
                  refine ⟨hdB, ?_⟩
                  simp only [Act.put, List.setIfInBounds_toArray, List.set_cons_zero, List.set_cons_succ]
                  refine take_one (i := 21) (d := some 64) (v := .int .u16 (wd2 zs 18)) rfl rfl rfl (by kernel_rfl) (by kernel_rfl) (by kernel_rfl) (fun _ _ _ _ _ h => absurd h.1 (by simp)) (fun W hS => ex_cv16 (.tmp 63) rfl rfl (HR2.out 18)) hdB ?_
                  simp only [Act.put, List.setIfInBounds_toArray, List.set_cons_zero, List.set_cons_succ]
                  refine take_one (i := 22) (d := some 65) (v := .agg #[.int .u16 (wd2 zs 0), .int .u16 (wd2 zs 2), .int .u32 (lg zs 4), .int .u32 (lg zs 8), .int .u8 (flg zs), .int .u16 (wd2 zs 14), .int .u16 (wd2 zs 18), .slice none 0 0, .slice none 0 0]) rfl rfl rfl (by kernel_rfl) (by kernel_rfl) (by kernel_rfl) (fun _ _ _ _ _ h => absurd h.1 (by simp)) (fun W hS => ex_buildT rfl rfl rfl rfl rfl rfl rfl rfl) hdB ?_
                  simp only [Act.put, List.setIfInBounds_toArray, List.set_cons_zero, List.set_cons_succ]
                  refine all_one (i := 24) (by kernel_rfl) rfl rfl ?_
                  refine store_wp (.tmp 9) (.tmp 65) 34 rfl rfl rfl hstS ⟨hdS, ?_⟩
                  simp only [Act.put, List.setIfInBounds_toArray, List.set_cons_zero, List.set_cons_succ]
                  refine wpAnyH_done (by kernel_rfl) ?_ _
                  exact ⟨rfl, rfl, rfl⟩
              · skip
                refine alloc_tcp (d := some 9) rfl rfl ⟨hdB, ?_⟩
                simp only [Act.put, List.setIfInBounds_toArray, List.set_cons_zero, List.set_cons_succ]
                refine all_one (i := 17) (by kernel_rfl) rfl rfl ?_
                refine wp_call (d := some 60) 51 _ rfl (by kernel_rfl) (HG2.out 14 (by decide) _ hdB) ?_
                rintro _ _ ⟨rfl, rfl⟩
                refine ⟨hdB, ?_⟩
                simp only [Act.put, List.setIfInBounds_toArray, List.set_cons_zero, List.set_cons_succ]
                refine take_one (i := 18) (d := some 61) (v := .int .u16 (wd2 zs 14)) rfl rfl rfl (by kernel_rfl) (by kernel_rfl) (by kernel_rfl) (fun _ _ _ _ _ h => absurd h.1 (by simp)) (fun W hS => ex_cv16 (.tmp 60) rfl rfl (HR2.out 14)) hdB ?_
                simp only [Act.put, List.setIfInBounds_toArray, List.set_cons_zero, List.set_cons_succ]
                refine all_one (i := 20) (by kernel_rfl) rfl rfl ?_
                refine wp_call (d := some 63) 51 _ rfl (by kernel_rfl) (HG2.out 18 (by decide) _ hdB) ?_
                rintro _ _ ⟨rfl, rfl⟩
                refine ⟨hdB, ?_⟩
                simp only [Act.put, List.setIfInBounds_toArray, List.set_cons_zero, List.set_cons_succ]
                refine take_one (i := 21) (d := some 64) (v := .int .u16 (wd2 zs 18)) rfl rfl rfl (by kernel_rfl) (by kernel_rfl) (by kernel_rfl) (fun _ _ _ _ _ h => absurd h.1 (by simp)) (fun W hS => ex_cv16 (.tmp 63) rfl rfl (HR2.out 18)) hdB ?_
                simp only [Act.put, List.setIfInBounds_toArray, List.set_cons_zero, List.set_cons_succ]
                refine take_one (i := 22) (d := some 65) (v := .agg #[.int .u16 (wd2 zs 0), .int .u16 (wd2 zs 2), .int .u32 (lg zs 4), .int .u32 (lg zs 8), .int .u8 (flg zs), .int .u16 (wd2 zs 14), .int .u16 (wd2 zs 18), .slice none 0 0, .slice none 0 0]) rfl rfl rfl (by kernel_rfl) (by kernel_rfl) (by kernel_rfl) (fun _ _ _ _ _ h => absurd h.1 (by simp)) (fun W hS => ex_buildT rfl rfl rfl rfl rfl rfl rfl rfl) hdB ?_
                simp only [Act.put, List.setIfInBounds_toArray, List.set_cons_zero, List.set_cons_succ]
                refine all_one (i := 24) (by kernel_rfl) rfl rfl ?_
                refine store_wp (.tmp 9) (.tmp 65) 34 rfl rfl rfl hstS ⟨hdS, ?_⟩
                simp only [Act.put, List.setIfInBounds_toArray, List.set_cons_zero, List.set_cons_succ]
                refine wpAnyH_done (by kernel_rfl) ?_ _
                exact ⟨rfl, rfl, rfl⟩
            · skip
              refine alloc_tcp (d := some 9) rfl rfl ⟨hdB, ?_⟩
              simp only [Act.put, List.setIfInBounds_toArray, List.set_cons_zero, List.set_cons_succ]
              refine all_one (i := 10) (by kernel_rfl) rfl rfl ?_
              refine wp_call (d := some 53) 51 _ rfl (by kernel_rfl) (HG4.out 8 (by decide) _ hdB) ?_
              rintro _ _ ⟨rfl, rfl⟩
              refine ⟨hdB, ?_⟩
              simp only [Act.put, List.setIfInBounds_toArray, List.set_cons_zero, List.set_cons_succ]
              refine take_one (i := 11) (d := some 54) (v := .int .u32 (lg zs 8)) rfl rfl rfl (by kernel_rfl) (by kernel_rfl) (by kernel_rfl) (fun _ _ _ _ _ h => absurd h.1 (by simp)) (fun W hS => ex_cv32 (.tmp 53) rfl rfl (HR4.out 8)) hdB ?_
              simp only [Act.put, List.setIfInBounds_toArray, List.set_cons_zero, List.set_cons_succ]
              refine all_one (i := 17) (by kernel_rfl) rfl rfl ?_
              refine wp_call (d := some 60) 51 _ rfl (by kernel_rfl) (HG2.out 14 (by decide) _ hdB) ?_
              rintro _ _ ⟨rfl, rfl⟩
              refine ⟨hdB, ?_⟩
              simp only [Act.put, List.setIfInBounds_toArray, List.set_cons_zero, List.set_cons_succ]
              refine take_one (i := 18) (d := some 61) (v := .int .u16 (wd2 zs 14)) rfl rfl rfl (by kernel_rfl) (by kernel_rfl) (by kernel_rfl) (fun _ _ _ _ _ h => absurd h.1 (by simp)) (fun W hS => ex_cv16 (.tmp 60) rfl rfl (HR2.out 14)) hdB ?_
              simp only [Act.put, List.setIfInBounds_toArray, List.set_cons_zero, List.set_cons_succ]
              refine all_one (i := 20) (by kernel_rfl) rfl rfl ?_
              refine wp_call (d := some 63) 51 _ rfl (by kernel_rfl) (HG2.out 18 (by decide) _ hdB) ?_
              rintro _ _ ⟨rfl, rfl⟩
              refine ⟨hdB, ?_⟩
              simp only [Act.put, List.setIfInBounds_toArray, List.set_cons_zero, List.set_cons_succ]
              refine take_one (i := 21) (d := some 64) (v := .int .u16 (wd2 zs 18)) rfl rfl rfl (by kernel_rfl) (by kernel_rfl) (by kernel_rfl) (fun _ _ _ _ _ h => absurd h.1 (by simp)) (fun W hS => ex_cv16 (.tmp 63) rfl rfl (HR2.out 18)) hdB ?_
              simp only [Act.put, List.setIfInBounds_toArray, List.set_cons_zero, List.set_cons_succ]
              refine take_one (i := 22) (d := some 65) (v := .agg #[.int .u16 (wd2 zs 0), .int .u16 (wd2 zs 2), .int .u32 (lg zs 4), .int .u32 (lg zs 8), .int .u8 (flg zs), .int .u16 (wd2 zs 14), .int .u16 (wd2 zs 18), .slice none 0 0, .slice none 0 0]) rfl rfl rfl (by kernel_rfl) (by kernel_rfl) (by kernel_rfl) (fun _ _ _ _ _ h => absurd h.1 (by simp)) (fun W hS => ex_buildT rfl rfl rfl rfl rfl rfl rfl rfl) hdB ?_
              simp only [Act.put, List.setIfInBounds_toArray, List.set_cons_zero, List.set_cons_succ]
              refine all_one (i := 24) (by kernel_rfl) rfl rfl ?_
              refine store_wp (.tmp 9) (.tmp 65) 34 rfl rfl rfl hstS ⟨hdS, ?_⟩
              simp only [Act.put, List.setIfInBounds_toArray, List.set_cons_zero, List.set_cons_succ]
              refine wpAnyH_done (by kernel_rfl) ?_ _
              exact ⟨rfl, rfl, rfl⟩
          · skip
            refine alloc_tcp (d := some 9) rfl rfl ⟨hdB, ?_⟩
            simp only [Act.put, List.setIfInBounds_toArray, List.set_cons_zero, List.set_cons_succ]
            refine all_one (i := 7) (by kernel_rfl) rfl rfl ?_
            refine wp_call (d := some 50) 51 _ rfl (by kernel_rfl) (HG4.out 4 (by decide) _ hdB) ?_
            rintro _ _ ⟨rfl, rfl⟩
            refine ⟨hdB, ?_⟩
            simp only [Act.put, List.setIfInBounds_toArray, List.set_cons_zero, List.set_cons_succ]
            refine take_one (i := 8) (d := some 51) (v := .int .u32 (lg zs 4)) rfl rfl rfl (by kernel_rfl) (by kernel_rfl) (by kernel_rfl) (fun _ _ _ _ _ h => absurd h.1 (by simp)) (fun W hS => ex_cv32 (.tmp 50) rfl rfl (HR4.out 4)) hdB ?_
            simp only [Act.put, List.setIfInBounds_toArray, List.set_cons_zero, List.set_cons_succ]
            refine all_one (i := 10) (by kernel_rfl) rfl rfl ?_
            refine wp_call (d := some 53) 51 _ rfl (by kernel_rfl) (HG4.out 8 (by decide) _ hdB) ?_
            rintro _ _ ⟨rfl, rfl⟩
            refine ⟨hdB, ?_⟩
            simp only [Act.put, List.setIfInBounds_toArray, List.set_cons_zero, List.set_cons_succ]
            refine take_one (i := 11) (d := some 54) (v := .int .u32 (lg zs 8)) rfl rfl rfl (by kernel_rfl) (by kernel_rfl) (by kernel_rfl) (fun _ _ _ _ _ h => absurd h.1 (by simp)) (fun W hS => ex_cv32 (.tmp 53) rfl rfl (HR4.out 8)) hdB ?_
            simp only [Act.put, List.setIfInBounds_toArray, List.set_cons_zero, List.set_cons_succ]
            refine all_one (i := 17) (by kernel_rfl) rfl rfl ?_
            refine wp_call (d := some 60) 51 _ rfl (by kernel_rfl) (HG2.out 14 (by decide) _ hdB) ?_
            rintro _ _ ⟨rfl, rfl⟩
            refine ⟨hdB, ?_⟩
            simp only [Act.put, List.setIfInBounds_toArray, List.set_cons_zero, List.set_cons_succ]
            refine take_one (i := 18) (d := some 61) (v := .int .u16 (wd2 zs 14)) rfl rfl rfl (by kernel_rfl) (by kernel_rfl) (by kernel_rfl) (fun _ _ _ _ _ h => absurd h.1 (by simp)) (fun W hS => ex_cv16 (.tmp 60) rfl rfl (HR2.out 14)) hdB ?_
            simp only [Act.put, List.setIfInBounds_toArray, List.set_cons_zero, List.set_cons_succ]
            refine all_one (i := 20) (by kernel_rfl) rfl rfl ?_
            refine wp_call (d := some 63) 51 _ rfl (by kernel_rfl) (HG2.out 18 (by decide) _ hdB) ?_
            rintro _ _ ⟨rfl, rfl⟩
            refine ⟨hdB, ?_⟩
            simp only [Act.put, List.setIfInBounds_toArray, List.set_cons_zero, List.set_cons_succ]
            refine take_one (i := 21) (d := some 64) (v := .int .u16 (wd2 zs 18)) rfl rfl rfl (by kernel_rfl) (by kernel_rfl) (by kernel_rfl) (fun _ _ _ _ _ h => absurd h.1 (by simp)) (fun W hS => ex_cv16 (.tmp 63) rfl rfl (HR2.out 18)) hdB ?_
            simp only [Act.put, List.setIfInBounds_toArray, List.set_cons_zero, List.set_cons_succ]
            refine take_one (i := 22) (d := some 65) (v := .agg #[.int .u16 (wd2 zs 0), .int .u16 (wd2 zs 2), .int .u32 (lg zs 4), .int .u32 (lg zs 8), .int .u8 (flg zs), .int .u16 (wd2 zs 14), .int .u16 (wd2 zs 18), .slice none 0 0, .slice none 0 0]) rfl rfl rfl (by kernel_rfl) (by kernel_rfl) (by kernel_rfl) (fun _ _ _ _ _ h => absurd h.1 (by simp)) (fun W hS => ex_buildT rfl rfl rfl rfl rfl rfl rfl rfl) hdB ?_
            simp only [Act.put, List.setIfInBounds_toArray, List.set_cons_zero, List.set_cons_succ]
            refine all_one (i := 24) (by kernel_rfl) rfl rfl ?_
            refine store_wp (.tmp 9) (.tmp 65) 34 rfl rfl rfl hstS ⟨hdS, ?_⟩
            simp only [Act.put, List.setIfInBounds_toArray, List.set_cons_zero, List.set_cons_succ]
            refine wpAnyH_done (by kernel_rfl) ?_ _
            exact ⟨rfl, rfl, rfl⟩
        · skip
          refine alloc_tcp (d := some 9) rfl rfl ⟨hdB, ?_⟩
          simp only [Act.put, List.setIfInBounds_toArray, List.set_cons_zero, List.set_cons_succ]
          refine all_one (i := 4) (by kernel_rfl) rfl rfl ?_
          refine wp_call (d := some 47) 51 _ rfl (by kernel_rfl) (HG2.out 2 (by decide) _ hdB) ?_
          rintro _ _ ⟨rfl, rfl⟩
          refine ⟨hdB, ?_⟩
          simp only [Act.put, List.setIfInBounds_toArray, List.set_cons_zero, List.set_cons_succ]
          refine take_one (i := 5) (d := some 48) (v := .int .u16 (wd2 zs 2)) rfl rfl rfl (by kernel_rfl) (by kernel_rfl) (by kernel_rfl) (fun _ _ _ _ _ h => absurd h.1 (by simp)) (fun W hS => ex_cv16 (.tmp 47) rfl rfl (HR2.out 2)) hdB ?_
          simp only [Act.put, List.setIfInBounds_toArray, List.set_cons_zero, List.set_cons_succ]
          refine all_one (i := 7) (by kernel_rfl) rfl rfl ?_
          refine wp_call (d := some 50) 51 _ rfl (by kernel_rfl) (HG4.out 4 (by decide) _ hdB) ?_
          rintro _ _ ⟨rfl, rfl⟩
          refine ⟨hdB, ?_⟩
          simp only [Act.put, List.setIfInBounds_toArray, List.set_cons_zero, List.set_cons_succ]
          refine take_one (i := 8) (d := some 51) (v := .int .u32 (lg zs 4)) rfl rfl rfl (by kernel_rfl) (by kernel_rfl) (by kernel_rfl) (fun _ _ _ _ _ h => absurd h.1 (by simp)) (fun W hS => ex_cv32 (.tmp 50) rfl rfl (HR4.out 4)) hdB ?_
          simp only [Act.put, List.setIfInBounds_toArray, List.set_cons_zero, List.set_cons_succ]
          refine all_one (i := 10) (by kernel_rfl) rfl rfl ?_
          refine wp_call (d := some 53) 51 _ rfl (by kernel_rfl) (HG4.out 8 (by decide) _ hdB) ?_
          rintro _ _ ⟨rfl, rfl⟩
          refine ⟨hdB, ?_⟩
          simp only [Act.put, List.setIfInBounds_toArray, List.set_cons_zero, List.set_cons_succ]
          refine take_one (i := 11) (d := some 54) (v := .int .u32 (lg zs 8)) rfl rfl rfl (by kernel_rfl) (by kernel_rfl) (by kernel_rfl) (fun _ _ _ _ _ h => absurd h.1 (by simp)) (fun W hS => ex_cv32 (.tmp 53) rfl rfl (HR4.out 8)) hdB ?_
          simp only [Act.put, List.setIfInBounds_toArray, List.set_cons_zero, List.set_cons_succ]
          refine all_one (i := 17) (by kernel_rfl) rfl rfl ?_
          refine wp_call (d := some 60) 51 _ rfl (by kernel_rfl) (HG2.out 14 (by decide) _ hdB) ?_
          rintro _ _ ⟨rfl, rfl⟩
          refine ⟨hdB, ?_⟩
          simp only [Act.put, List.setIfInBounds_toArray, List.set_cons_zero, List.set_cons_succ]
          refine take_one (i := 18) (d := some 61) (v := .int .u16 (wd2 zs 14)) rfl rfl rfl (by kernel_rfl) (by kernel_rfl) (by kernel_rfl) (fun _ _ _ _ _ h => absurd h.1 (by simp)) (fun W hS => ex_cv16 (.tmp 60) rfl rfl (HR2.out 14)) hdB ?_
          simp only [Act.put, List.setIfInBounds_toArray, List.set_cons_zero, List.set_cons_succ]
          refine all_one (i := 20) (by kernel_rfl) rfl rfl ?_
          refine wp_call (d := some 63) 51 _ rfl (by kernel_rfl) (HG2.out 18 (by decide) _ hdB) ?_
          rintro _ _ ⟨rfl, rfl⟩
          refine ⟨hdB, ?_⟩
          simp only [Act.put, List.setIfInBounds_toArray, List.set_cons_zero, List.set_cons_succ]
          refine take_one (i := 21) (d := some 64) (v := .int .u16 (wd2 zs 18)) rfl rfl rfl (by kernel_rfl) (by kernel_rfl) (by kernel_rfl) (fun _ _ _ _ _ h => absurd h.1 (by simp)) (fun W hS => ex_cv16 (.tmp 63) rfl rfl (HR2.out 18)) hdB ?_
          simp only [Act.put, List.setIfInBounds_toArray, List.set_cons_zero, List.set_cons_succ]
          refine take_one (i := 22) (d := some 65) (v := .agg #[.int .u16 (wd2 zs 0), .int .u16 (wd2 zs 2), .int .u32 (lg zs 4), .int .u32 (lg zs 8), .int .u8 (flg zs), .int .u16 (wd2 zs 14), .int .u16 (wd2 zs 18), .slice none 0 0, .slice none 0 0]) rfl rfl rfl (by kernel_rfl) (by kernel_rfl) (by kernel_rfl) (fun _ _ _ _ _ h => absurd h.1 (by simp)) (fun W hS => ex_buildT rfl rfl rfl rfl rfl rfl rfl rfl) hdB ?_
          simp only [Act.put, List.setIfInBounds_toArray, List.set_cons_zero, List.set_cons_succ]
          refine all_one (i := 24) (by kernel_rfl) rfl rfl ?_
          refine store_wp (.tmp 9) (.tmp 65) 34 rfl rfl rfl hstS ⟨hdS, ?_⟩
          simp only [Act.put, List.setIfInBounds_toArray, List.set_cons_zero, List.set_cons_succ]
          refine wpAnyH_done (by kernel_rfl) ?_ _
          exact ⟨rfl, rfl, rfl⟩
      · skip
        refine alloc_tcp (d := some 9) rfl rfl ⟨hdB, ?_⟩
        simp only [Act.put, List.setIfInBounds_toArray, List.set_cons_zero, List.set_cons_succ]
        refine all_one (i := 1) (by kernel_rfl) rfl rfl ?_
        refine wp_call (d := some 44) 51 _ rfl (by kernel_rfl) (HG2.out 0 (by decide) _ hdB) ?_
        rintro _ _ ⟨rfl, rfl⟩
        refine ⟨hdB, ?_⟩
        simp only [Act.put, List.setIfInBounds_toArray, List.set_cons_zero, List.set_cons_succ]
        refine take_one (i := 2) (d := some 45) (v := .int .u16 (wd2 zs 0)) rfl rfl rfl (by kernel_rfl) (by kernel_rfl) (by kernel_rfl) (fun _ _ _ _ _ h => absurd h.1 (by simp)) (fun W hS => ex_cv16 (.tmp 44) rfl rfl (HR2.out 0)) hdB ?_
        simp only [Act.put, List.setIfInBounds_toArray, List.set_cons_zero, List.set_cons_succ]
        refine all_one (i := 4) (by kernel_rfl) rfl rfl ?_
        refine wp_call (d := some 47) 51 _ rfl (by kernel_rfl) (HG2.out 2 (by decide) _ hdB) ?_
        rintro _ _ ⟨rfl, rfl⟩
        refine ⟨hdB, ?_⟩
        simp only [Act.put, List.setIfInBounds_toArray, List.set_cons_zero, List.set_cons_succ]
        refine take_one (i := 5) (d := some 48) (v := .int .u16 (wd2 zs 2)) rfl rfl rfl (by kernel_rfl) (by kernel_rfl) (by kernel_rfl) (fun _ _ _ _ _ h => absurd h.1 (by simp)) (fun W hS => ex_cv16 (.tmp 47) rfl rfl (HR2.out 2)) hdB ?_
        simp only [Act.put, List.setIfInBounds_toArray, List.set_cons_zero, List.set_cons_succ]
        refine all_one (i := 7) (by kernel_rfl) rfl rfl ?_
        refine wp_call (d := some 50) 51 _ rfl (by kernel_rfl) (HG4.out 4 (by decide) _ hdB) ?_
        rintro _ _ ⟨rfl, rfl⟩
        refine ⟨hdB, ?_⟩
        simp only [Act.put, List.setIfInBounds_toArray, List.set_cons_zero, List.set_cons_succ]
        refine take_one (i := 8) (d := some 51) (v := .int .u32 (lg zs 4)) rfl rfl rfl (by kernel_rfl) (by kernel_rfl) (by kernel_rfl) (fun _ _ _ _ _ h => absurd h.1 (by simp)) (fun W hS => ex_cv32 (.tmp 50) rfl rfl (HR4.out 4)) hdB ?_
        simp only [Act.put, List.setIfInBounds_toArray, List.set_cons_zero, List.set_cons_succ]
        refine all_one (i := 10) (by kernel_rfl) rfl rfl ?_
        refine wp_call (d := some 53) 51 _ rfl (by kernel_rfl) (HG4.out 8 (by decide) _ hdB) ?_
        rintro _ _ ⟨rfl, rfl⟩
        refine ⟨hdB, ?_⟩
        simp only [Act.put, List.setIfInBounds_toArray, List.set_cons_zero, List.set_cons_succ]
        refine take_one (i := 11) (d := some 54) (v := .int .u32 (lg zs 8)) rfl rfl rfl (by kernel_rfl) (by kernel_rfl) (by kernel_rfl) (fun _ _ _ _ _ h => absurd h.1 (by simp)) (fun W hS => ex_cv32 (.tmp 53) rfl rfl (HR4.out 8)) hdB ?_
        simp only [Act.put, List.setIfInBounds_toArray, List.set_cons_zero, List.set_cons_succ]
        refine all_one (i := 17) (by kernel_rfl) rfl rfl ?_
        refine wp_call (d := some 60) 51 _ rfl (by kernel_rfl) (HG2.out 14 (by decide) _ hdB) ?_
        rintro _ _ ⟨rfl, rfl⟩
        refine ⟨hdB, ?_⟩
        simp only [Act.put, List.setIfInBounds_toArray, List.set_cons_zero, List.set_cons_succ]
        refine take_one (i := 18) (d := some 61) (v := .int .u16 (wd2 zs 14)) rfl rfl rfl (by kernel_rfl) (by kernel_rfl) (by kernel_rfl) (fun _ _ _ _ _ h => absurd h.1 (by simp)) (fun W hS => ex_cv16 (.tmp 60) rfl rfl (HR2.out 14)) hdB ?_
        simp only [Act.put, List.setIfInBounds_toArray, List.set_cons_zero, List.set_cons_succ]
        refine all_one (i := 20) (by kernel_rfl) rfl rfl ?_
        refine wp_call (d := some 63) 51 _ rfl (by kernel_rfl) (HG2.out 18 (by decide) _ hdB) ?_
        rintro _ _ ⟨rfl, rfl⟩
        refine ⟨hdB, ?_⟩
        simp only [Act.put, List.setIfInBounds_toArray, List.set_cons_zero, List.set_cons_succ]
        refine take_one (i := 21) (d := some 64) (v := .int .u16 (wd2 zs 18)) rfl rfl rfl (by kernel_rfl) (by kernel_rfl) (by kernel_rfl) (fun _ _ _ _ _ h => absurd h.1 (by simp)) (fun W hS => ex_cv16 (.tmp 63) rfl rfl (HR2.out 18)) hdB ?_
        simp only [Act.put, List.setIfInBounds_toArray, List.set_cons_zero, List.set_cons_succ]
        refine take_one (i := 22) (d := some 65) (v := .agg #[.int .u16 (wd2 zs 0), .int .u16 (wd2 zs 2), .int .u32 (lg zs 4), .int .u32 (lg zs 8), .int .u8 (flg zs), .int .u16 (wd2 zs 14), .int .u16 (wd2 zs 18), .slice none 0 0, .slice none 0 0]) rfl rfl rfl (by kernel_rfl) (by kernel_rfl) (by kernel_rfl) (fun _ _ _ _ _ h => absurd h.1 (by simp)) (fun W hS => ex_buildT rfl rfl rfl rfl rfl rfl rfl rfl) hdB ?_
        simp only [Act.put, List.setIfInBounds_toArray, List.set_cons_zero, List.set_cons_succ]
        refine all_one (i := 24) (by kernel_rfl) rfl rfl ?_
        refine store_wp (.tmp 9) (.tmp 65) 34 rfl rfl rfl hstS ⟨hdS, ?_⟩
        simp only [Act.put, List.setIfInBounds_toArray, List.set_cons_zero, List.set_cons_succ]
        refine wpAnyH_done (by kernel_rfl) ?_ _
        exact ⟨rfl, rfl, rfl⟩
    rintro _ wT ⟨rfl, hwT⟩
    rw [hwT]
    clear hwT wT
    simp only [Act.put, List.setIfInBounds_toArray, List.set_cons_zero, List.set_cons_succ]
    obtain ⟨yo, hyo⟩ : ∃ yo, (zs.drop 20).take n = yo := ⟨_, rfl⟩
    obtain ⟨yd, hyd⟩ : ∃ yd, (zs.drop 20).drop n = yd := ⟨_, rfl⟩
    have HYO : Hid _ := hyo
    have HYD : Hid _ := hyd
    rw [hyo] at HOPT
    rw [hyd] at HDAT
    clear hyo hyd
    have hB9 := (Below.refl wS.heap.size wS).alloc (Nat.le_refl _) (.cells #[] 5)
    obtain ⟨w8, hw8⟩ : ∃ w8, wS.alloc (.cells #[] 5) = w8 := ⟨_, rfl⟩
    rw [hw8] at hB9
    have hd9 := hdS.trans (hB9.mono hdS.size)
    obtain ⟨a9, k9, w9, hrun9, hby9, hb9, hloc9⟩ := bytes_copied2 (HOPT.out _ hd9) wS.heap.size 29
    have hd10 := hd9.trans (hb9.mono hd9.size)
    have bR9 := blk_on (blk_on bS hB9) hb9
    have x7 : w9.cell? ⟨w4.heap.size, 7, none⟩ = some (.slice none 0 0) := blk_cell bR9 (j := 7) rfl
    have f7 : w9.frozen? ⟨w4.heap.size, 7, none⟩ = false := blk_open bR9 7
    have hL9 : New wS (.slice a9 yo.length k9) yo := hloc9.imp id (fun ⟨g, o, e, hs⟩ => ⟨g, o, _, _, by rw [e], Nat.le_trans hB9.size hs⟩)
    have hO10 := (Only.refl w4.heap.size w9).set 7 (.slice a9 yo.length k9)
    have hby10 := New.only hL9 HHS.out hby9 hO10
    have bR10 := blk_set bR9 7 (.slice a9 yo.length k9)
    obtain ⟨w10, hw10⟩ : ∃ w10, w9.setCell ⟨w4.heap.size, 7, none⟩ (.slice a9 yo.length k9) = w10 := ⟨_, rfl⟩
    rw [hw10] at hO10 bR10 hby10
    have hd11 := hd10.trans (hO10.below hx4.size)
    have hB11 := (Below.refl w10.heap.size w10).alloc (Nat.le_refl _) (.cells #[] 5)
    obtain ⟨w12, hw12⟩ : ∃ w12, w10.alloc (.cells #[] 5) = w12 := ⟨_, rfl⟩
    rw [hw12] at hB11
    have hd12 := hd11.trans (hB11.mono hd11.size)
    obtain ⟨a13, k13, w13, hrun13, hby13, hb13, hloc13⟩ := bytes_copied2 (HDAT.out _ hd12) w10.heap.size 29
    have hd13 := hd12.trans (hb13.mono hd12.size)
    have bR13 := blk_on (blk_on bR10 hB11) hb13
    have x8 : w13.cell? ⟨w4.heap.size, 8, none⟩ = some (.slice none 0 0) := blk_cell bR13 (j := 8) rfl
    have f8 : w13.frozen? ⟨w4.heap.size, 8, none⟩ = false := blk_open bR13 8
    have hz10 : w10.heap.size = w9.heap.size := hO10.size
    have hle : wS.heap.size ≤ w12.heap.size := by
      have k1 := hB9.size
      have k2 := hb9.size
      have k3 := hB11.size
      omega
    have hL13 : New wS (.slice a13 yd.length k13) yd := hloc13.imp id (fun ⟨g, o, e, hs⟩ => ⟨g, o, _, _, by rw [e], Nat.le_trans hle hs⟩)
    have hO14 := (Only.refl w4.heap.size w13).set 8 (.slice a13 yd.length k13)
    have hyo14 := New.only hL9 HHS.out ((hby10.later hB11).later hb13) hO14
    have hyd14 := New.only hL13 HHS.out hby13 hO14
    have hd14 := hd13.trans (hO14.below hx4.size)
    have bR14 : (w13.setCell ⟨w4.heap.size, 8, none⟩ (.slice a13 yd.length k13)).heap[w4.heap.size]? = some (.cells [.int .u16 (wd2 zs 0), .int .u16 (wd2 zs 2), .int .u32 (lg zs 4), .int .u32 (lg zs 8), .int .u8 (flg zs), .int .u16 (wd2 zs 14), .int .u16 (wd2 zs 18), .slice a9 yo.length k9, .slice a13 yd.length k13].toArray 34) := blk_set bR13 8 (.slice a13 yd.length k13)
    have HL : Hid _ := agg_load (t := 34) Try.isAgg34 Try.sizeOf34 rfl (CellsAt.of_blk bR14)
    obtain ⟨w15, hst15, b15, hO15⟩ := box_store Try.sizeOf34 (B0.out _ hd14) rfl [.int .u16 (wd2 zs 0), .int .u16 (wd2 zs 2), .int .u32 (lg zs 4), .int .u32 (lg zs 8), .int .u8 (flg zs), .int .u16 (wd2 zs 14), .int .u16 (wd2 zs 18), .slice a9 yo.length k9, .slice a13 yd.length k13] rfl (by simp [Value.oneCell'])
    have hwS : w.heap.size < wS.heap.size := by
      have k1 := hx4.size
      have k2 := HHS.out
      omega
    have HVO : Hid _ := New.only hL9 hwS hyo14 hO15
    have HVD : Hid _ := New.only hL13 hwS hyd14 hO15
    have HNO : Hid (New w (.slice a9 yo.length k9) yo) := hL9.old (by omega)
    have HND : Hid (New w (.slice a13 yd.length k13) yd) := hL13.old (by omega)
    have HE : Hid (Below w.heap.size w w15) := (HB0.out.trans (hd14.mono HB0.out.size)).trans (hO15.below (Nat.le_refl _))
    have HST : Hid _ := hst15
    have HRUN9 : Hid _ := hrun9
    have HRUN13 : Hid _ := hrun13
    have B15 : Hid _ := b15
    clear hrun9 hrun13 hst15 b15 hO15 hyo14 hyd14 hO14 hby13 hb13 hby10 hO10 hby9 hb9 hL9 hL13 hloc9 hloc13 bR9 bR10 bR13 bR14 hB9 hB11 hd9 hd10 hd11 hd12 hd13 hd14 hle hwS hdA hdB hdS hdr hstS bS hbS HOPT HDAT hx4 hz10 c12 q t12 m12 i12 w1' q1 q2 q3 hfl HG2 HG4 HC12 HC13 HR2 HR4 g12 g13 hW0 hs0
    go_wp2_with first
      | ((with_reducible show wpList _ _ _ ({ dst := _, op := Op.slice _ _ _ _ _, type := _, pos := _, after := _, guard := _ } :: _) _ _); refine arm_slice rfl 29 (.tmp 67) _ _ rfl rfl rfl rfl (HSM.out _) ?_)
      | ((with_reducible show wpList _ _ _ ({ dst := _, op := Op.slice _ _ _ _ _, type := _, pos := _, after := _, guard := _ } :: _) _ _); refine arm_slice rfl 29 (.tmp 73) _ _ rfl rfl rfl rfl (HSE.out _) ?_)
      | ((with_reducible show wpList _ _ _ ({ dst := _, op := Op.call _, type := _, pos := _, after := _, guard := _ } :: _) _ _); refine arm_append rfl (.tmp 66) (.tmp 69) 29 rfl rfl rfl HRUN9.out ?_)
      | ((with_reducible show wpList _ _ _ ({ dst := _, op := Op.call _, type := _, pos := _, after := _, guard := _ } :: _) _ _); refine arm_append rfl (.tmp 72) (.tmp 75) 29 rfl rfl rfl HRUN13.out ?_)
      | ((with_reducible show wpList _ _ _ ({ dst := _, op := Op.load _ _, type := _, pos := _, after := _, guard := _ } :: _) _ _); refine arm_load rfl (.tmp 9) 34 rfl rfl HL.out ?_)
      | ((with_reducible show wpList _ _ _ ({ dst := _, op := Op.store _ _ _, type := _, pos := _, after := _, guard := _ } :: _) _ _); refine arm_store rfl (.tmp 6) (.tmp 78) 34 rfl rfl rfl HST.out ?_)
    obtain rfl := HYO.out
    obtain rfl := HYD.out
    exact bodyPost_ret (res2t rfl rfl (agg_loadVar Try.isAgg34 Try.sizeOf34 rfl (CellsAt.of_blk B15.out))) rfl ⟨HE.out, _, _, rfl, HVO.out, by simpa only [List.drop_drop] using HVD.out, HNO.out, by simpa only [List.drop_drop] using HND.out⟩
  · have HER : er = 62 := by rw [her]; simp [hs]
    subst HER
    clear her
    have q5 : (sm != 65535) = true := by simp [hs]
    obtain ⟨w9, hst9, b9, hon9⟩ := box_store Try.sizeOf34 (B0.out _ hx4) rfl [.int .u16 0, .int .u16 0, .int .u32 0, .int .u32 0, .int .u8 0, .int .u16 0, .int .u16 0, .slice none 0 0, .slice none 0 0] rfl (by simp [Value.oneCell'])
    have HST9 : Hid _ := hst9
    have B9 : Hid _ := b9
    have HE : Hid (Below w.heap.size w w9) := (HB0.out.trans (hx4.mono HB0.out.size)).trans (hon9.below (Nat.le_refl _))
    clear hst9 b9 hon9
    go_wp2_with ((with_reducible show wpList _ _ _ _ _ _); refine arm_store rfl (.tmp 6) (.tmp 42) 34 rfl rfl rfl HST9.out ?_)
    exact bodyPost_ret (res2t rfl rfl (agg_loadVar Try.isAgg34 Try.sizeOf34 rfl (CellsAt.of_blk B9.out))) rfl ⟨HE.out, fun _ => rfl, fun h0 => absurd h0 (by decide)⟩

end Go.Proofs.Ytlhmelkgnpjgaaa
