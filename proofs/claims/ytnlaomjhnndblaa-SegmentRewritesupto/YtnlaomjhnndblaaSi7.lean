/-
  The document's CheckTCP and WriteTCP.
-/
import Derived.Test.YtnlaomjhnndblaaSi6
import Derived.Test.YtnlaomjhnndblaaSi3
namespace Go.Proofs.Ytnlaomjhnndblaa
open Go Go.RowKit Go.Shelf
set_option linter.unusedVariables false
set_option linter.unusedSimpArgs false

theorem ex_fieldT {o : Oper} {a : Act} {W : World} (k : Nat) (i : Nat) {b : Nat} (hop : o.op = Op.fieldAddr 34 (.tmp k) i) (hk : a.eval (.tmp k) = .pointer (some ⟨b, 0, none⟩)) (hi : i < 9) :
    (execOp a.eval o).run Try.prog W = .ok (.value (.pointer (some ⟨b, i, none⟩))) W := by
  generalize a.eval = ev at *
  rcases (by omega : i = 0 ∨ i = 1 ∨ i = 2 ∨ i = 3 ∨ i = 4 ∨ i = 5 ∨ i = 6 ∨ i = 7 ∨ i = 8) with rfl | rfl | rfl | rfl | rfl | rfl | rfl | rfl | rfl <;> simp [execOp, hop, hk, go_sem]
theorem ex_load32 {o : Oper} {a : Act} {W : World} (k : Nat) {p : Addr} {x : Int} (hop : o.op = Op.load 32 (.tmp k)) (hk : a.eval (.tmp k) = .pointer (some p)) (hc : W.cell? p = some (.int .u32 x)) :
    (execOp a.eval o).run Try.prog W = .ok (.value (.int .u32 x)) W := by
  generalize a.eval = ev at *
  simp [execOp, hop, hk, hc, go_sem]

set_option maxHeartbeats 2000000 in
set_option maxRecDepth 100000 in
theorem CheckTCP_calls (c : List Value) (t : Seg) (w : World) (ht : TcpC w c t) :
    Calls Try.prog 47 #[.agg c.toArray] w fun e w' => e = .returned (.int .i64 (tcpE t)) ∧ Below w.heap.size w w' := by
  obtain ⟨⟨vo, vd, rfl, hvo, hvd⟩, _, _, _, _, ff, _⟩ := ht
  obtain ⟨src, dst, seq, ack, fl, win, urg, opts, data⟩ := t
  simp only at hvo hvd ff ⊢
  have hB0 := (Below.refl w.heap.size w).alloc (Nat.le_refl _) (.cells [.int .u16 src, .int .u16 dst, .int .u32 seq, .int .u32 ack, .int .u8 fl, .int .u16 win, .int .u16 urg, vo, vd].toArray 34)
  have hlo := hvo.len
  have hld := hvd.len
  obtain ⟨ao, co, rfl, _⟩ := hvo.val
  obtain ⟨ad, cd, rfl, _⟩ := hvd.val
  have hE : tcpE ⟨src, dst, seq, ack, fl, win, urg, opts, data⟩ = (if (decide (63 < fl) || decide (40 < opts.length) || decide (opts.length % 4 ≠ 0)) = true then 63 else if decide (65535 < 20 + opts.length + data.length) = true then 2 else 0) := by
    cases hb : tcpBad ⟨src, dst, seq, ack, fl, win, urg, opts, data⟩ with
    | true =>
      have h' : (decide (63 < fl) || decide (40 < opts.length) || decide (opts.length % 4 ≠ 0)) = true := hb
      rw [h']
      simp [tcpE, hb]
    | false =>
      have h' : (decide (63 < fl) || decide (40 < opts.length) || decide (opts.length % 4 ≠ 0)) = false := hb
      rw [h']
      by_cases h4 : 65535 < 20 + opts.length + data.length <;> simp [tcpE, hb, tcpAll, h4]
  rw [hE]
  have e0 : decide ((64 : Int) ≤ fl) = decide (63 < fl) := by rw [decide_eq_decide]; omega
  have e1 : decide ((40 : Int) < (opts.length : Int)) = decide (40 < opts.length) := by rw [decide_eq_decide]; omega
  have e2 : ((opts.length : Int) % 4 != 0) = decide (opts.length % 4 ≠ 0) := by
    by_cases h : opts.length % 4 = 0
    · have : (opts.length : Int) % 4 = 0 := by omega
      simp [h, this]
    · have : (opts.length : Int) % 4 ≠ 0 := by omega
      simp [h, this]
  have e3 : decide ((65515 : Int) - (opts.length : Int) < (data.length : Int)) = decide (65535 < 20 + opts.length + data.length) := by rw [decide_eq_decide]; omega
  generalize decide (63 < fl) = x1 at *
  generalize decide (40 < opts.length) = x2 at *
  generalize decide (opts.length % 4 ≠ 0) = x3 at *
  generalize decide (65535 < 20 + opts.length + data.length) = x4 at *
  have HB0 : Hid _ := hB0
  clear hB0 hvo hvd hE
  go_enter Try.func47, Try.ntmps47
  cases x1
  · cases x2
    · cases x3
      · cases x4
        all_goals
          go_wp2
          go_ret
          exact ⟨rfl, HB0.out⟩
      · go_wp2
        go_ret
        exact ⟨rfl, HB0.out⟩
    · go_wp2
      go_ret
      exact ⟨rfl, HB0.out⟩
  · go_wp2
    go_ret
    exact ⟨rfl, HB0.out⟩

set_option maxHeartbeats 2000000 in
set_option maxRecDepth 100000 in
theorem RWriteTCP_no (sv dv : Value) (N : Nat) (ph : Int → Int → List Int) (c : List Value) (t : Seg) (w : World) (he : EndV w sv dv N ph) (ht : TcpC w c t) (hn : tcpE t ≠ 0) :
    Calls Try.prog 17 #[sv, dv, .agg c.toArray] w fun e w' => e = .returned (.tuple #[.slice none 0 0, .int .i64 (tcpE t)]) ∧ Below w.heap.size w w' := by
  obtain ⟨sa, cs, rfl⟩ := he.sval
  obtain ⟨da, cd, rfl⟩ := he.dval
  have hb0 := blk_new w (.cells c.toArray 34)
  have hB0 := (Below.refl w.heap.size w).alloc (Nat.le_refl _) (.cells c.toArray 34)
  have HL : Hid _ := agg_load (t := 34) Try.isAgg34 Try.sizeOf34 ht.len (CellsAt.of_blk hb0)
  have HC : Hid _ := CheckTCP_calls c t _ (ht.on hB0)
  have HB0 : Hid _ := hB0
  generalize tcpE t = k at *
  have q : (k != 0) = true := by simp [hn]
  clear hb0 hB0 ht he hn
  go_enter Try.func17, Try.ntmps17
  go_wp2_with ((with_reducible show wpList _ _ _ _ _ _); refine arm_load rfl (.tmp 5) 34 rfl rfl HL.out ?_)
  refine Calls.mono HC.out ?_
  rintro _ w1 ⟨rfl, hb1⟩
  have H1 : Hid _ := HB0.out.trans (hb1.mono HB0.out.size)
  clear hb1 HB0
  go_wp2
  go_ret2
  exact ⟨rfl, H1.out⟩

def rtcpH (t : Seg) : List Int := w2 t.src ++ w2 t.dst ++ putB t.seq 4 ++ putB t.ack 4 ++ [(20 + (t.opts.length : Int)) * 4, t.fl] ++ w2 t.win
def rtcpT (t : Seg) : List Int := w2 t.urg ++ t.opts ++ t.data
def rtcpS (ph : Int → Int → List Int) (t : Seg) : Int := 65535 - sumW 0 (wordsL (ph 6 (20 + (t.opts.length : Int) + (t.data.length : Int)) ++ (rtcpH t ++ ([0, 0] ++ rtcpT t))))
def rtcpL (ph : Int → Int → List Int) (t : Seg) : List Int := rtcpH t ++ w2 (rtcpS ph t) ++ rtcpT t
theorem tcpE_zero {t : Seg} (h : tcpE t = 0) : tcpBad t = false ∧ tcpAll t ≤ 65535 := by
  unfold tcpE at h
  cases hb : tcpBad t with
  | true => rw [hb] at h; simp at h
  | false =>
    rw [hb] at h
    simp at h
    exact ⟨rfl, by omega⟩
set_option maxHeartbeats 4000000 in
set_option maxRecDepth 100000 in
theorem RWriteTCP_ok (sv dv : Value) (N : Nat) (ph : Int → Int → List Int) (c : List Value) (t : Seg) (w : World) (he : EndV w sv dv N ph) (hph : ∀ p n : Int, 0 ≤ p ∧ p < 256 → 0 ≤ n ∧ n ≤ 65535 → Fit (ph p n)) (ht : TcpC w c t) (hn : tcpE t = 0) :
    Calls Try.prog 17 #[sv, dv, .agg c.toArray] w fun e w' => ∃ v, e = .returned (.tuple #[v, .int .i64 0]) ∧ OB w.heap.size w w' v (rtcpL ph t) := by
  obtain ⟨hbad, hall⟩ := tcpE_zero hn
  obtain ⟨sa, cs, rfl⟩ := he.sval
  obtain ⟨da, cd, rfl⟩ := he.dval
  have hb0 := blk_new w (.cells c.toArray 34)
  have hB0 := (Below.refl w.heap.size w).alloc (Nat.le_refl _) (.cells c.toArray 34)
  have hc0 := CheckTCP_calls c t _ (ht.on hB0)
  rw [hn] at hc0
  have hl9 := ht.len
  obtain ⟨⟨vo, vd, rfl, hvo, hvd⟩, fs, fd, fq, fa, ff, fw, fu⟩ := ht
  obtain ⟨src, dst, seq, ack, fl, win, urg, opts, data⟩ := t
  simp only [tcpAll] at hvo hvd fs fd fq fa ff fw fu hall
  simp [tcpBad] at hbad
  obtain ⟨W0, hW0⟩ : ∃ W0, w.alloc (.cells [.int .u16 src, .int .u16 dst, .int .u32 seq, .int .u32 ack, .int .u8 fl, .int .u16 win, .int .u16 urg, vo, vd].toArray 34) = W0 := ⟨_, rfl⟩
  rw [hW0] at hb0 hB0 hc0
  have HL : Hid _ := agg_load (t := 34) Try.isAgg34 Try.sizeOf34 hl9 (CellsAt.of_blk hb0)
  have HC : Hid _ := hc0
  have K0 : Hid (∀ W, Below W0.heap.size W0 W → W.cell? ⟨w.heap.size, 0, none⟩ = some (.int .u16 src)) := fun W hW => blk_cell (j := 0) (blk_on hb0 hW) rfl
  have K1 : Hid (∀ W, Below W0.heap.size W0 W → W.cell? ⟨w.heap.size, 1, none⟩ = some (.int .u16 dst)) := fun W hW => blk_cell (j := 1) (blk_on hb0 hW) rfl
  have K2 : Hid (∀ W, Below W0.heap.size W0 W → W.cell? ⟨w.heap.size, 2, none⟩ = some (.int .u32 seq)) := fun W hW => blk_cell (j := 2) (blk_on hb0 hW) rfl
  have K3 : Hid (∀ W, Below W0.heap.size W0 W → W.cell? ⟨w.heap.size, 3, none⟩ = some (.int .u32 ack)) := fun W hW => blk_cell (j := 3) (blk_on hb0 hW) rfl
  have K4 : Hid (∀ W, Below W0.heap.size W0 W → W.cell? ⟨w.heap.size, 4, none⟩ = some (.int .u8 fl)) := fun W hW => blk_cell (j := 4) (blk_on hb0 hW) rfl
  have K5 : Hid (∀ W, Below W0.heap.size W0 W → W.cell? ⟨w.heap.size, 5, none⟩ = some (.int .u16 win)) := fun W hW => blk_cell (j := 5) (blk_on hb0 hW) rfl
  have K6 : Hid (∀ W, Below W0.heap.size W0 W → W.cell? ⟨w.heap.size, 6, none⟩ = some (.int .u16 urg)) := fun W hW => blk_cell (j := 6) (blk_on hb0 hW) rfl
  have hlo := hvo.len
  have hld := hvd.len
  have HVO : Hid (∀ W, Below W0.heap.size W0 W → BytesAt W.heap.size W vo opts) := fun W hW => hvo.later (hB0.trans (hW.mono hB0.size))
  have HVD : Hid (∀ W, Below W0.heap.size W0 W → BytesAt W.heap.size W vd data) := fun W hW => hvd.later (hB0.trans (hW.mono hB0.size))
  have HFO : Hid (Fit opts) := hvo.fit
  have HFD : Hid (Fit data) := hvd.fit
  have K7 : Hid (∀ W, Below W0.heap.size W0 W → W.cell? ⟨w.heap.size, 7, none⟩ = some vo) := fun W hW => blk_cell (j := 7) (blk_on hb0 hW) rfl
  have K8 : Hid (∀ W, Below W0.heap.size W0 W → W.cell? ⟨w.heap.size, 8, none⟩ = some vd) := fun W hW => blk_cell (j := 8) (blk_on hb0 hW) rfl
  have HPS : Hid (∀ W, Below W0.heap.size W0 W → Calls Try.prog 40 #[.slice sa N cs, .slice da N cd, .int .u8 6, .int .i64 (20 + (opts.length : Int) + (data.length : Int))] W fun e w' => ∃ u, e = .returned u ∧ (BytesAt w'.heap.size w' u (ph 6 (20 + (opts.length : Int) + (data.length : Int))) ∧ Below W.heap.size W w')) := fun W hW => he.tells W (hB0.trans (hW.mono hB0.size)) 6 _ (by decide) (by omega)
  have HEV : Hid _ := he.even
  have HPF : Hid (∀ p n : Int, 0 ≤ p ∧ p < 256 → 0 ≤ n ∧ n ≤ 65535 → Fit (ph p n)) := hph
  have HB0 : Hid _ := hB0
  obtain ⟨ao, ko, rfl, _⟩ := hvo.val
  obtain ⟨ad, kd, rfl, _⟩ := hvd.val
  have HDEF : Hid (rtcpL ph ⟨src, dst, seq, ack, fl, win, urg, opts, data⟩ = (w2 src ++ w2 dst ++ putB seq 4 ++ putB ack 4 ++ [(20 + (opts.length : Int)) * 4, fl] ++ w2 win) ++ w2 (65535 - sumW 0 (wordsL (ph 6 (20 + (opts.length : Int) + (data.length : Int)) ++ ((w2 src ++ w2 dst ++ putB seq 4 ++ putB ack 4 ++ [(20 + (opts.length : Int)) * 4, fl] ++ w2 win) ++ ([0, 0] ++ (w2 urg ++ opts ++ data)))))) ++ (w2 urg ++ opts ++ data)) := rfl
  generalize rtcpL ph ⟨src, dst, seq, ack, fl, win, urg, opts, data⟩ = RL at *
  clear hvo hvd hB0 he hb0 hph hc0 hn hl9
  go_enter Try.func17, Try.ntmps17
  go_wp2_with ((with_reducible show wpList _ _ _ _ _ _); refine arm_load rfl (.tmp 5) 34 rfl rfl HL.out ?_)
  refine Calls.mono HC.out ?_
  rintro _ w1 ⟨rfl, hx1⟩
  have k7a := K7.out w1 hx1
  clear HC HL hW0
  go_wp2_with fail
  have hS0 : Below W0.heap.size W0 w1.drew := hx1.drew
  refine wp_region_held (S := fun W => Below W0.heap.size W0 W) (by kernel_rfl) ?_
  show wpAnyH _ _ _ _ _ 9 (Array.replicate 9 false) _ w1.drew
  refine take_one (i := 0) (d := some 22) (v := .pointer (some ⟨w.heap.size, 0, none⟩)) rfl rfl rfl (by kernel_rfl) (by kernel_rfl) (by kernel_rfl) (fun _ _ d _ _ h => by cases d <;> exact h) (fun W hS => ex_fieldT 5 0 rfl rfl (by decide)) hS0 ?_
  simp only [Act.put, List.setIfInBounds_toArray, List.set_cons_zero, List.set_cons_succ]
  refine take_one (i := 1) (d := some 23) (v := .int .u16 src) rfl rfl rfl (by kernel_rfl) (by kernel_rfl) (by kernel_rfl) (fun _ _ d _ _ h => by cases d <;> exact h) (fun W hS => ex_load16 22 rfl rfl (K0.out W hS)) hS0 ?_
  simp only [Act.put, List.setIfInBounds_toArray, List.set_cons_zero, List.set_cons_succ]
  refine take_one (i := 2) (d := some 24) (v := .int .u64 src) rfl rfl rfl (by kernel_rfl) (by kernel_rfl) (by kernel_rfl) (fun _ _ d _ _ h => by cases d <;> exact h) (fun W hS => ex_u64 (.tmp 23) (k := .u16) rfl (.inl ⟨rfl, rfl⟩) rfl (by omega)) hS0 ?_
  simp only [Act.put, List.setIfInBounds_toArray, List.set_cons_zero, List.set_cons_succ]
  refine take_one (i := 4) (d := some 26) (v := .pointer (some ⟨w.heap.size, 1, none⟩)) rfl rfl rfl (by kernel_rfl) (by kernel_rfl) (by kernel_rfl) (fun _ _ d _ _ h => by cases d <;> exact h) (fun W hS => ex_fieldT 5 1 rfl rfl (by decide)) hS0 ?_
  simp only [Act.put, List.setIfInBounds_toArray, List.set_cons_zero, List.set_cons_succ]
  refine take_one (i := 5) (d := some 27) (v := .int .u16 dst) rfl rfl rfl (by kernel_rfl) (by kernel_rfl) (by kernel_rfl) (fun _ _ d _ _ h => by cases d <;> exact h) (fun W hS => ex_load16 26 rfl rfl (K1.out W hS)) hS0 ?_
  simp only [Act.put, List.setIfInBounds_toArray, List.set_cons_zero, List.set_cons_succ]
  refine take_one (i := 6) (d := some 28) (v := .int .u64 dst) rfl rfl rfl (by kernel_rfl) (by kernel_rfl) (by kernel_rfl) (fun _ _ d _ _ h => by cases d <;> exact h) (fun W hS => ex_u64 (.tmp 27) (k := .u16) rfl (.inl ⟨rfl, rfl⟩) rfl (by omega)) hS0 ?_
  simp only [Act.put, List.setIfInBounds_toArray, List.set_cons_zero, List.set_cons_succ]
  have o0 : OB W0.heap.size W0 w1.drew (.slice none 0 0) [] := ⟨World.ownsRow_nil _ _ _ _, hS0⟩
  refine all_one (i := 3) (by kernel_rfl) rfl rfl ?_
  refine wp_call (d := some 25) 43 _ rfl (by kernel_rfl) (put_calls o0 hx1.size src (by omega) 2 (by decide) (by simp)) ?_
  rintro v2 w2_ ⟨o2, s2, st2⟩
  refine ⟨o2.bel, ?_⟩
  rw [List.nil_append, putB_two fs] at o2
  simp only [Act.put, List.setIfInBounds_toArray, List.set_cons_zero, List.set_cons_succ]
  refine all_one (i := 7) (by kernel_rfl) rfl rfl ?_
  refine wp_call (d := some 29) 43 _ rfl (by kernel_rfl) (put_calls o2 s2 dst (by omega) 2 (by decide) (by simp [w2])) ?_
  rintro v3 w3 ⟨o3, s3, st3⟩
  refine ⟨o3.bel, ?_⟩
  rw [putB_two fd] at o3
  simp only [Act.put, List.setIfInBounds_toArray, List.set_cons_zero, List.set_cons_succ]
  refine take_one (i := 8) (d := some 10) (v := v3) rfl rfl rfl (by kernel_rfl) (by kernel_rfl) (by kernel_rfl) (fun _ _ d _ _ h => by cases d <;> exact h) (fun W hS => ex_assign (.tmp 29) rfl rfl) o3.bel ?_
  simp only [Act.put, List.setIfInBounds_toArray, List.set_cons_zero, List.set_cons_succ]
  refine wpAnyH_done (by kernel_rfl) ?_ _
  have HO3 : Hid (OB W0.heap.size W0 w3 v3 (w2 src ++ w2 dst)) := o3
  clear o0 o2 o3 st2 st3 s2 hS0 k7a
  go_wp2_with fail
  have hS0 : Below W0.heap.size W0 w3.drew := HO3.out.bel.drew
  refine wp_region_held (S := fun W => Below W0.heap.size W0 W) (by kernel_rfl) ?_
  show wpAnyH _ _ _ _ _ 10 (Array.replicate 10 false) _ w3.drew
  refine take_one (i := 0) (d := some 30) (v := v3) rfl rfl rfl (by kernel_rfl) (by kernel_rfl) (by kernel_rfl) (fun _ _ d _ _ h => by cases d <;> exact h) (fun W hS => ex_move (.tmp 10) rfl rfl) hS0 ?_
  simp only [Act.put, List.setIfInBounds_toArray, List.set_cons_zero, List.set_cons_succ]
  refine take_one (i := 1) (d := some 31) (v := .pointer (some ⟨w.heap.size, 2, none⟩)) rfl rfl rfl (by kernel_rfl) (by kernel_rfl) (by kernel_rfl) (fun _ _ d _ _ h => by cases d <;> exact h) (fun W hS => ex_fieldT 5 2 rfl rfl (by decide)) hS0 ?_
  simp only [Act.put, List.setIfInBounds_toArray, List.set_cons_zero, List.set_cons_succ]
  refine take_one (i := 2) (d := some 32) (v := .int .u32 seq) rfl rfl rfl (by kernel_rfl) (by kernel_rfl) (by kernel_rfl) (fun _ _ d _ _ h => by cases d <;> exact h) (fun W hS => ex_load32 31 rfl rfl (K2.out W hS)) hS0 ?_
  simp only [Act.put, List.setIfInBounds_toArray, List.set_cons_zero, List.set_cons_succ]
  refine take_one (i := 3) (d := some 33) (v := .int .u64 seq) rfl rfl rfl (by kernel_rfl) (by kernel_rfl) (by kernel_rfl) (fun _ _ d _ _ h => by cases d <;> exact h) (fun W hS => ex_u64 (.tmp 32) (k := .u32) rfl (.inr (.inl ⟨rfl, rfl⟩)) rfl (by omega)) hS0 ?_
  simp only [Act.put, List.setIfInBounds_toArray, List.set_cons_zero, List.set_cons_succ]
  refine take_one (i := 5) (d := some 35) (v := .pointer (some ⟨w.heap.size, 3, none⟩)) rfl rfl rfl (by kernel_rfl) (by kernel_rfl) (by kernel_rfl) (fun _ _ d _ _ h => by cases d <;> exact h) (fun W hS => ex_fieldT 5 3 rfl rfl (by decide)) hS0 ?_
  simp only [Act.put, List.setIfInBounds_toArray, List.set_cons_zero, List.set_cons_succ]
  refine take_one (i := 6) (d := some 36) (v := .int .u32 ack) rfl rfl rfl (by kernel_rfl) (by kernel_rfl) (by kernel_rfl) (fun _ _ d _ _ h => by cases d <;> exact h) (fun W hS => ex_load32 35 rfl rfl (K3.out W hS)) hS0 ?_
  simp only [Act.put, List.setIfInBounds_toArray, List.set_cons_zero, List.set_cons_succ]
  refine take_one (i := 7) (d := some 37) (v := .int .u64 ack) rfl rfl rfl (by kernel_rfl) (by kernel_rfl) (by kernel_rfl) (fun _ _ d _ _ h => by cases d <;> exact h) (fun W hS => ex_u64 (.tmp 36) (k := .u32) rfl (.inr (.inl ⟨rfl, rfl⟩)) rfl (by omega)) hS0 ?_
  simp only [Act.put, List.setIfInBounds_toArray, List.set_cons_zero, List.set_cons_succ]
  have o3 : OB W0.heap.size W0 w3.drew v3 (w2 src ++ w2 dst) := ⟨HO3.out.own, hS0⟩
  refine all_one (i := 4) (by kernel_rfl) rfl rfl ?_
  refine wp_call (d := some 34) 43 _ rfl (by kernel_rfl) (put_calls o3 s3 seq (by omega) 4 (by decide) (by simp [w2])) ?_
  rintro v4 w4 ⟨o4, s4, st4⟩
  refine ⟨o4.bel, ?_⟩
  simp only [Act.put, List.setIfInBounds_toArray, List.set_cons_zero, List.set_cons_succ]
  refine all_one (i := 8) (by kernel_rfl) rfl rfl ?_
  refine wp_call (d := some 38) 43 _ rfl (by kernel_rfl) (put_calls o4 s4 ack (by omega) 4 (by decide) (by simp [w2, putB_length])) ?_
  rintro v5 w5 ⟨o5, s5, st5⟩
  refine ⟨o5.bel, ?_⟩
  simp only [Act.put, List.setIfInBounds_toArray, List.set_cons_zero, List.set_cons_succ]
  refine take_one (i := 9) (d := some 10) (v := v5) rfl rfl rfl (by kernel_rfl) (by kernel_rfl) (by kernel_rfl) (fun _ _ d _ _ h => by cases d <;> exact h) (fun W hS => ex_assign (.tmp 38) rfl rfl) o5.bel ?_
  simp only [Act.put, List.setIfInBounds_toArray, List.set_cons_zero, List.set_cons_succ]
  refine wpAnyH_done (by kernel_rfl) ?_ _
  have k4a := K4.out w5 o5.bel
  have q20 : (20 + (opts.length : Int)) * 4 % 256 = (20 + (opts.length : Int)) * 4 := by omega
  have r20 : IntKind.u8.wrap ((20 + (opts.length : Int)) * 4) = (20 + (opts.length : Int)) * 4 := by rw [IntKind.wrap_u8]; omega
  obtain ⟨v6, w6, hr6, o6, s6, _⟩ := ob_lit2 o5 s5 [(20 + (opts.length : Int)) * 4, fl] #[.int .u8 ((20 + (opts.length : Int)) * 4), .int .u8 fl] rfl (fun z hz => by simp at hz; omega) (by simp [w2, putB_length]) 2 rfl 29
  have HR6 : Hid _ := hr6
  have k5a := K5.out w6 o6.bel
  have HPW : Hid _ := put_calls o6 s6 win (by omega) 2 (by decide) (by simp [w2, putB_length])
  have x6 := o6.bel
  clear hr6 o3 o4 o5 o6 HO3 st4 st5 hS0
  go_wp2_with (at_builtin; refine wpList_append_run rfl _ _ _ _ rfl rfl rfl HR6.out ?_)
  refine Calls.mono HPW.out ?_
  rintro _ w7 ⟨v7, rfl, o7, s7, _⟩
  rw [putB_two fw] at o7
  have HO7 : Hid (OB W0.heap.size W0 w7 v7 (w2 src ++ w2 dst ++ putB seq 4 ++ putB ack 4 ++ [(20 + (opts.length : Int)) * 4, fl] ++ w2 win)) := o7
  clear o7 HPW k4a k5a x6 HR6
  go_wp2_with fail
  have hS0 : Below w7.heap.size w7 w7.drew := (Below.refl _ _).drew
  have hX : ∀ W, Below w7.heap.size w7 W → Below W0.heap.size W0 W := fun W hW => HO7.out.bel.trans (hW.mono s7)
  refine wp_region_held (S := fun W => Below w7.heap.size w7 W) (by kernel_rfl) ?_
  show wpAnyH _ _ _ _ _ 8 (Array.replicate 8 false) _ w7.drew
  refine take_one (i := 0) (d := some 52) (v := .pointer (some ⟨w.heap.size, 6, none⟩)) rfl rfl rfl (by kernel_rfl) (by kernel_rfl) (by kernel_rfl) (fun _ _ d _ _ h => by cases d <;> exact h) (fun W hS => ex_fieldT 5 6 rfl rfl (by decide)) hS0 ?_
  simp only [Act.put, List.setIfInBounds_toArray, List.set_cons_zero, List.set_cons_succ]
  refine take_one (i := 1) (d := some 53) (v := .int .u16 urg) rfl rfl rfl (by kernel_rfl) (by kernel_rfl) (by kernel_rfl) (fun _ _ d _ _ h => by cases d <;> exact h) (fun W hS => ex_load16 52 rfl rfl (K6.out W (hX W hS))) hS0 ?_
  simp only [Act.put, List.setIfInBounds_toArray, List.set_cons_zero, List.set_cons_succ]
  refine take_one (i := 2) (d := some 54) (v := .int .u64 urg) rfl rfl rfl (by kernel_rfl) (by kernel_rfl) (by kernel_rfl) (fun _ _ d _ _ h => by cases d <;> exact h) (fun W hS => ex_u64 (.tmp 53) (k := .u16) rfl (.inl ⟨rfl, rfl⟩) rfl (by omega)) hS0 ?_
  simp only [Act.put, List.setIfInBounds_toArray, List.set_cons_zero, List.set_cons_succ]
  refine take_one (i := 4) (d := some 56) (v := .pointer (some ⟨w.heap.size, 7, none⟩)) rfl rfl rfl (by kernel_rfl) (by kernel_rfl) (by kernel_rfl) (fun _ _ d _ _ h => by cases d <;> exact h) (fun W hS => ex_fieldT 5 7 rfl rfl (by decide)) hS0 ?_
  simp only [Act.put, List.setIfInBounds_toArray, List.set_cons_zero, List.set_cons_succ]
  refine take_one (i := 5) (d := some 57) (v := .slice ao opts.length ko) rfl rfl rfl (by kernel_rfl) (by kernel_rfl) (by kernel_rfl) (fun _ _ d _ _ h => by cases d <;> exact h) (fun W hS => ex_load 56 rfl rfl (K7.out W (hX W hS)) ⟨_, _, _, rfl⟩) hS0 ?_
  simp only [Act.put, List.setIfInBounds_toArray, List.set_cons_zero, List.set_cons_succ]
  have o0 : OB w7.heap.size w7 w7.drew (.slice none 0 0) [] := ⟨World.ownsRow_nil _ _ _ _, hS0⟩
  refine all_one (i := 3) (by kernel_rfl) rfl rfl ?_
  refine wp_call (d := some 55) 43 _ rfl (by kernel_rfl) (put_calls o0 (Nat.le_refl _) urg (by omega) 2 (by decide) (by simp)) ?_
  rintro v8 w8 ⟨o8, s8, st8⟩
  refine ⟨o8.bel, ?_⟩
  rw [List.nil_append, putB_two fu] at o8
  simp only [Act.put, List.setIfInBounds_toArray, List.set_cons_zero, List.set_cons_succ]
  obtain ⟨v9, w9, hr9, o9, s9, _⟩ := ob_app2 o8 s8 (HVO.out w8 (hX _ o8.bel)) (by simp [w2]; omega) 29
  refine all_one (i := 6) (by kernel_rfl) rfl rfl ?_
  refine wp_append (d := some 58) (.tmp 55) (.tmp 57) 29 rfl rfl rfl rfl hr9 ⟨o9.bel, ?_⟩
  simp only [Act.put, List.setIfInBounds_toArray, List.set_cons_zero, List.set_cons_succ]
  refine take_one (i := 7) (d := some 11) (v := v9) rfl rfl rfl (by kernel_rfl) (by kernel_rfl) (by kernel_rfl) (fun _ _ d _ _ h => by cases d <;> exact h) (fun W hS => ex_assign (.tmp 58) rfl rfl) o9.bel ?_
  simp only [Act.put, List.setIfInBounds_toArray, List.set_cons_zero, List.set_cons_succ]
  refine wpAnyH_done (by kernel_rfl) ?_ _
  have k8a := K8.out w9 (hX _ o9.bel)
  obtain ⟨v10, w10, hr10, o10, s10, _⟩ := ob_app2 o9 s9 (HVD.out w9 (hX _ o9.bel)) (by simp [w2]; omega) 29
  have HR10 : Hid _ := hr10
  have k8b := K8.out w10 (hX _ o10.bel)
  have HP10 : Hid _ := HPS.out w10 (hX _ o10.bel)
  have HO10 : Hid (OB w7.heap.size w7 w10 v10 (w2 urg ++ opts ++ data)) := o10
  have HX : Hid _ := hX
  clear hr10 o8 o9 o10 o0 st8 hS0 hr9 hX
  go_wp2_with (at_builtin; refine wpList_append_run rfl _ _ _ _ rfl rfl rfl HR10.out ?_)
  refine Calls.mono HP10.out ?_
  rintro _ w11 ⟨u, rfl, hu, hb11⟩
  have hfitB : Fit (w2 src ++ w2 dst ++ putB seq 4 ++ putB ack 4 ++ [(20 + (opts.length : Int)) * 4, fl] ++ w2 win) := by
    intro z hz
    simp [w2, putB] at hz
    omega
  have hlenB : (w2 src ++ w2 dst ++ putB seq 4 ++ putB ack 4 ++ [(20 + (opts.length : Int)) * 4, fl] ++ w2 win).length = 16 := by simp [w2, putB]
  have hfitT : Fit (w2 urg ++ opts ++ data) := ((w2_fit fu).append HFO.out).append HFD.out
  have hlenT : (w2 urg ++ opts ++ data).length = 2 + opts.length + data.length := by simp [w2]; omega
  have hx11 : Below w7.heap.size w7 w11 := HO10.out.bel.trans (hb11.mono s10)
  have oB11 := HO7.out.below s7 hx11
  have oT11 := HO10.out.below s10 hb11
  have hbB := own_bytes oB11.own hfitB (by rw [hlenB]; decide)
  have hbT := own_bytes oT11.own hfitT (by rw [hlenT]; omega)
  have hlit := (Below.refl w11.heap.size w11).alloc (Nat.le_refl _) (.cells #[.int .u8 0, .int .u8 0] 5)
  have hb00 := bytes_new w11 5 [0, 0] #[.int .u8 0, .int .u8 0] 2 2 (bytes_lit _ _ rfl) rfl (by simp) (fit_of _ rfl)
  obtain ⟨au, cu, eu, _⟩ := hu.val
  obtain ⟨aB, cB, eB, _⟩ := hbB.val
  obtain ⟨aT, cT, eT, _⟩ := hbT.val
  subst eu
  rw [hlenB] at eB
  rw [hlenT] at eT
  subst eB eT
  have hP := parts_four _ _ _ _ _ 29 _ _ _ _ (hu.later hlit) (hbB.later hlit) hb00 (hbT.later hlit)
  have hfl : [ph 6 (20 + (opts.length : Int) + (data.length : Int)), w2 src ++ w2 dst ++ putB seq 4 ++ putB ack 4 ++ [(20 + (opts.length : Int)) * 4, fl] ++ w2 win, [0, 0], w2 urg ++ opts ++ data].flatten = ph 6 (20 + (opts.length : Int) + (data.length : Int)) ++ ((w2 src ++ w2 dst ++ putB seq 4 ++ putB ack 4 ++ [(20 + (opts.length : Int)) * 4, fl] ++ w2 win) ++ ([0, 0] ++ (w2 urg ++ opts ++ data))) := by simp
  have hof := ROf_calls _ _ _ _ _ hP (by rw [hfl]; have := (HEV.out 6 (20 + (opts.length : Int) + (data.length : Int))).1; simp only [List.length_append] at hlenB hlenT ⊢; simp only [List.length_cons, List.length_nil] at hlenB hlenT ⊢; omega)
  rw [hfl] at hof
  have hr : 0 ≤ 65535 - sumW 0 (wordsL (ph 6 (20 + (opts.length : Int) + (data.length : Int)) ++ ((w2 src ++ w2 dst ++ putB seq 4 ++ putB ack 4 ++ [(20 + (opts.length : Int)) * 4, fl] ++ w2 win) ++ ([0, 0] ++ (w2 urg ++ opts ++ data))))) ∧ 65535 - sumW 0 (wordsL (ph 6 (20 + (opts.length : Int) + (data.length : Int)) ++ ((w2 src ++ w2 dst ++ putB seq 4 ++ putB ack 4 ++ [(20 + (opts.length : Int)) * 4, fl] ++ w2 win) ++ ([0, 0] ++ (w2 urg ++ opts ++ data))))) ≤ 65535 := by
    have := sumW_range (wordsL (ph 6 (20 + (opts.length : Int) + (data.length : Int)) ++ ((w2 src ++ w2 dst ++ putB seq 4 ++ putB ack 4 ++ [(20 + (opts.length : Int)) * 4, fl] ++ w2 win) ++ ([0, 0] ++ (w2 urg ++ opts ++ data))))) 0 (by decide) (wordsL_words ((HPF.out 6 _ (by decide) (by omega)).append (hfitB.append ((fit_of [0, 0] rfl).append hfitT))))
    omega
  generalize 65535 - sumW 0 (wordsL (ph 6 (20 + (opts.length : Int) + (data.length : Int)) ++ ((w2 src ++ w2 dst ++ putB seq 4 ++ putB ack 4 ++ [(20 + (opts.length : Int)) * 4, fl] ++ w2 win) ++ ([0, 0] ++ (w2 urg ++ opts ++ data))))) = ck at *
  have HOF : Hid _ := hof
  have HOB : Hid _ := oB11
  have HOT : Hid _ := oT11
  have HFT : Hid (Fit (w2 urg ++ opts ++ data)) := hfitT
  have HLT : Hid _ := hlenT
  have HLB : Hid _ := hlenB
  have HX11 : Hid _ := hx11
  have HB11 : Hid (Below w11.heap.size w11 ((w11.alloc (.cells #[.int .u8 0, .int .u8 0] 5)).alloc (.cells #[.slice au (ph 6 (20 + (opts.length : Int) + (data.length : Int))).length cu, .slice aB 16 cB, .slice (some ⟨w11.heap.size, 0, none⟩) 2 2, .slice aT (2 + opts.length + data.length) cT] 29))) := hlit.alloc hlit.size _
  have s11 : w7.heap.size ≤ w11.heap.size := hx11.size
  have e2 : (w11.alloc (.cells #[.int .u8 0, .int .u8 0] 5)).heap.size = w11.heap.size + 1 := by simp
  simp only [e2] at HOF
  generalize (ph 6 (20 + (opts.length : Int) + (data.length : Int))).length = lu at *
  clear hof oB11 oT11 hfitT hlenT hlenB hx11 hlit hb00 hP hfl hu hbB hbT hb11 HP10 HR10 HPS k8a e2
  go_wp2_with fail
  refine Calls.mono HOF.out ?_
  rintro _ w12 ⟨rfl, hb12⟩
  have hx12 := HB11.out.trans (hb12.mono HB11.out.size)
  have s12 : W0.heap.size ≤ w11.heap.size := Nat.le_trans s7 s11
  have oB12 := HOB.out.below s12 hx12
  have oT12 := HOT.out.below s11 hx12
  have hbT12 := own_bytes oT12.own HFT.out (by rw [HLT.out]; omega)
  have hne : ∀ b off n k, Value.slice aT (2 + opts.length + data.length) cT = .slice (some ⟨b, off, none⟩) n k → (Value.slice aB 16 cB).ownBlock ≠ some b := by
    intro b off n k e hown
    obtain ⟨a1, c1, e1, _, hz1⟩ := own_form HOT.out.own
    rcases hz1 with h0 | ⟨g, hg, hg1, _⟩
    · rw [HLT.out] at h0; omega
    · simp only [Value.slice.injEq] at e e1
      obtain ⟨e1a, _, _⟩ := e1
      obtain ⟨ea, _, _⟩ := e
      rw [e1a, hg] at ea
      cases ea
      have := (HO7.out.own.lt b hown).2
      omega
  have HPK : Hid _ := put_calls oB12 (Nat.le_trans s12 hx12.size) ck (by omega) 2 (by decide) (by rw [HLB.out]; decide)
  have HBT : Hid _ := hbT12
  have HNE : Hid _ := hne
  clear oB12 oT12 hbT12 hne hb12 hx12 HOF
  go_wp2_with fail
  refine Calls.mono HPK.out ?_
  rintro _ w13 ⟨v13, rfl, o13, s13, st13⟩
  rw [putB_two hr] at o13
  have hbT13 := st13.keep HBT.out HNE.out
  obtain ⟨v14, w14, hr14, o14, s14, _⟩ := ob_app2 o13 s13 hbT13 (by rw [List.length_append, HLB.out, HLT.out]; simp [w2]; omega) 29
  have HR14 : Hid _ := hr14
  have H14 : Hid (OB w.heap.size w w14 v14 RL) := by
    have := o14.lower HB0.out HB0.out.size
    show OB w.heap.size w w14 v14 RL
    rw [HDEF.out]
    exact this
  clear hr14 o14 o13 st13 hbT13 HPK HBT HNE HOB HOT
  go_wp2_with (at_builtin; refine wpList_append_run rfl _ _ _ _ rfl rfl rfl HR14.out ?_)
  go_ret2
  exact ⟨_, rfl, H14.out⟩

end Go.Proofs.Ytnlaomjhnndblaa
