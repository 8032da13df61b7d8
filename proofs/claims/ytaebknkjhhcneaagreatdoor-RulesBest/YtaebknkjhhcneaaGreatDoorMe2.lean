/-
  edge of the document.
-/
import Derived.Test.YtaebknkjhhcneaaGreatDoorFold22
import Derived.Test.YtaebknkjhhcneaaGreatDoorFold19
namespace Go.Proofs.YtaebknkjhhcneaaGreatDoor
open Go Go.RowKit
set_option linter.unusedVariables false
set_option linter.unusedSimpArgs false

theorem ex_cvI {o : Oper} {a : Act} {W : World} (k : Nat) {x : Nat} (hop : o.op = Op.convert 3 111 (.tmp k)) (hk : a.eval (.tmp k) = .int .i64 (x : Int)) (hx : x < 1000) :
    (execOp a.eval o).run Tryz.prog W = .ok (.value (.int .u64 (x : Int))) W := by
  have e : IntKind.u64.wrap (x : Int) = x := by unfold IntKind.wrap; simp [IntKind.signed, IntKind.bits]; omega
  generalize a.eval = ev at *
  simp [execOp, hop, hk, go_sem, e]
theorem ex_shrU {o : Oper} {a : Act} {W : World} (i j : Nat) {v q : Nat} (hop : o.op = Op.binOp .shr 58 (.tmp i) (.tmp j) 111) (hi : a.eval (.tmp i) = .int .u64 (v : Int)) (hj : a.eval (.tmp j) = .int .u64 (q : Int)) (hq : q ≤ 63) :
    (execOp a.eval o).run Tryz.prog W = .ok (.value (.int .u64 ((v / 2 ^ q : Nat) : Int))) W := by
  have e := cast_shr v q
  generalize a.eval = ev at *
  simp [execOp, hop, hi, hj, go_sem]
theorem build_e (l : List Int) (n : Int) (hl : l.length = 16) (w : World) : (Instr.build 69 #[(2, P6 l n)]).run Tryz.prog w = .ok (EV { zeroEd with l6 := l, n6 := n }) w := by
  obtain ⟨a0, a1, a2, a3, a4, a5, a6, a7, a8, a9, a10, a11, a12, a13, a14, a15, rfl⟩ := six16 hl
  exact run_build w _ _ _ (by kernel_rfl)
theorem acc_byte {zs : List Int} (h : FitB zs) (k : Nat) : accN zs 0 (8 * (k + 1)) = accN zs 0 (8 * k) * 256 + (zs[k]?.getD 0).toNat := by
  have hz := fit_at h k
  have e : ∀ j, j < 8 → bitN zs (0 + (8 * k + j)) = bk (zs[k]?.getD 0).toNat (7 - j) := by
    intro j hj
    unfold bitN
    rw [show (0 + (8 * k + j)) / 8 = k by omega, show (0 + (8 * k + j)) % 8 = j by omega]
  rw [show 8 * (k + 1) = 8 * k + 7 + 1 by omega, accN, accN, accN, accN, accN, accN, accN, accN, e 7 (by omega), e 6 (by omega), e 5 (by omega), e 4 (by omega), e 3 (by omega), e 2 (by omega), e 1 (by omega)]
  have e0 := e 0 (by omega)
  rw [Nat.add_zero] at e0
  rw [e0]
  have hz2 : (zs[k]?.getD 0).toNat < 256 := by omega
  clear e e0 hz
  generalize (zs[k]?.getD 0).toNat = z at *
  unfold bk
  simp only [Nat.sub_zero, Nat.reduceSub]
  omega
theorem shl8_or (x z : Nat) (hx : x < 2 ^ 24) (hz : z < 256) : bits .or .u64 ((x : Int) * 256) (z : Int) = ((x * 256 + z : Nat) : Int) := by
  have h := u64_or_nat (x * 256) z (by omega) (by omega)
  have e : (x * 256 ||| z) = x * 256 + z := by
    have := Nat.two_pow_add_eq_or_of_lt (i := 8) (b := z) (by omega) x
    rw [Nat.mul_comm x 256]
    exact this.symm
  rw [e] at h
  rw [← h]
  congr 1
/-- An edge's box, whatever its MAP address. -/
def EdO (c : Nat) (e : Ed) (W : World) : Prop := ∃ ow : List Int, ow.length = 16 ∧ W.heap[c]? = some (EO { e with ow := ow })
theorem EdO.on {c : Nat} {e : Ed} {W W' : World} (h : EdO c e W) (hb : Below W.heap.size W W') : EdO c e W' := by
  obtain ⟨ow, hl, h⟩ := h
  exact ⟨ow, hl, blk_on h hb⟩

theorem blk_drew {W : World} {b : Nat} {o : Obj} (h : W.heap[b]? = some o) : W.drew.heap[b]? = some o := h
theorem HasAll.drew {L : List (Nat × Obj)} {W : World} (h : HasAll L W) : HasAll L W.drew := h

set_option maxHeartbeats 8000000 in
set_option maxRecDepth 100000 in
theorem redge_any (r : Ru) (hok : r.Ok) (v : Nat) (hv : v < 2 ^ r.ea.toNat) (w : World) :
    Calls Tryz.prog 59 #[RV r, .int .u64 v] w fun e w' => e = .returned (EV (edg r v)) ∧ Below w.heap.size w w' := by
  generalize hQ : (fun (e : Ending) (w' : World) => e = .returned (EV (edg r v)) ∧ Below w.heap.size w w') = Q
  have HQ : Hid _ := hQ
  clear hQ
  have hr := hok.inn
  have hm := hok.mid
  obtain ⟨a, b, d, h, q, o, hn⟩ := hok.nums
  rw [hn.eb, Int.toNat_natCast] at hv
  have hlen := hn.len
  have hroom := hn.room
  have HSUM : Hid _ := hn.sum
  have HFULL : Hid _ := hn.full
  have hpsid := hn.psid
  have h64 : v < 18446744073709551616 := u64_of b v (by omega) hv
  have k1 := pow_le16 (l := q) (by omega)
  have k2 := pow_ge1 q
  have hand := and_mask v q h64 (by omega)
  have hvp : v % 2 ^ q < 2 ^ 16 := Nat.lt_of_lt_of_le (Nat.mod_lt _ (Nat.two_pow_pos q)) (Nat.pow_le_pow_right (by decide) (by omega))
  have hvq : v / 2 ^ q < 18446744073709551616 := Nat.lt_of_le_of_lt (Nat.div_le_self _ _) h64
  have HSF : Hid (∀ W, Calls Tryz.prog 57 #[RV r] W fun e w' => e = .returned (.int .i64 (32 - (d : Int))) ∧ Below W.heap.size W w') := fun W => by have := suffix_any r hr hm.n4 W; rw [hn.e4] at this; exact this
  have HSH : Hid (∀ W, Calls Tryz.prog 56 #[RV r] W fun e w' => e = .returned (.tuple #[.int .i64 (q : Nat), .bool (decide (0 < q))]) ∧ Below W.heap.size W w') := fun W => by
    have := Shared_any r hr hm W
    rw [hn.eq] at this
    have e : decide ((0 : Int) < (q : Int)) = decide (0 < q) := by rw [decide_eq_decide]; omega
    rw [e] at this
    exact this
  have HE6 : Hid (∀ W, Calls Tryz.prog 103 #[A6 r.l6, .int .i64 a, .int .i64 b, .int .u64 v] W fun e w' => e = .returned (A6 (endL r v)) ∧ Below W.heap.size W w') := fun W => by
    have := set6_any r.l6 a b v W hr.f6 hr.k6 (by omega) (by omega) h64 (fun i hi => hn.low6 hok (a + i) (by omega) (by omega))
    have e : writeL r.l6 a b v b = endL r v := by unfold endL; rw [hn.e6, hn.eb, Int.toNat_natCast, Int.toNat_natCast]
    rw [e] at this
    exact this
  have HV4 : Hid (∀ W, Calls Tryz.prog 104 #[A4L r.l4, .int .i64 d, .int .i64 h, .int .u64 (v / 2 ^ q : Nat)] W fun e w' => e = .returned (A4L (v4L r v)) ∧ Below W.heap.size W w') := fun W => by
    have := set4_any r.l4 d h (v / 2 ^ q) W hr.f4 hr.k4 (by omega) (by omega) hvq (fun i hi => hn.low4 hok (d + i) (by omega) (by omega))
    have e : writeL r.l4 d h (v / 2 ^ q) h = v4L r v := by unfold v4L; rw [hn.e4, hn.eh, hn.eq, Int.toNat_natCast, Int.toNat_natCast, Int.toNat_natCast]
    rw [e] at this
    exact this
  have e4k := v4L_length (v := v) hok
  have e4f := v4L_fit (v := v) hok
  have e6k := endL_length (v := v) hok
  have e6f := endL_fit (v := v) hok
  have ewk := ownL_length (v := v) hok
  have hx4 := accN_lt (v4L r v) 0 32
  have hOW : ownL r v = writeL (writeL (endL r v) 80 32 (accN (v4L r v) 0 32) 32) 112 16 (v % 2 ^ q) 16 := by unfold ownL pidV; rw [hn.eq, Int.toNat_natCast]
  have hz80 : ∀ i, 64 ≤ i → i < 128 → bitN (endL r v) i = 0 := fun i h1 h2 => by rw [bit_end hok hn, if_neg (by omega), hn.low6 hok i h2 (by omega)]
  have HW1 : Hid (∀ W, Calls Tryz.prog 103 #[A6 (endL r v), .int .i64 80, .int .i64 32, .int .u64 (accN (v4L r v) 0 32 : Nat)] W fun e w' => e = .returned (A6 (writeL (endL r v) 80 32 (accN (v4L r v) 0 32) 32)) ∧ Below W.heap.size W w') := fun W =>
    set6_any (endL r v) 80 32 _ W e6f e6k (by omega) (by omega) (by omega) (fun i hi => hz80 _ (by omega) (by omega))
  have HW2 : Hid (∀ W, Calls Tryz.prog 103 #[A6 (writeL (endL r v) 80 32 (accN (v4L r v) 0 32) 32), .int .i64 112, .int .i64 16, .int .u64 (v % 2 ^ q : Nat)] W fun e w' => e = .returned (A6 (ownL r v)) ∧ Below W.heap.size W w') := fun W => by
    rw [hOW]
    refine set6_any _ 112 16 _ W (writeL_fit e6f _ _ _ _) (by simp [e6k]) (by omega) (by omega) (by omega) (fun i hi => ?_)
    rw [bitN_writeL e6f _ _ _ _ _ (by omega), if_neg (by omega)]
    exact hz80 _ (by omega) (by omega)
  have hEdg : edg r v = ⟨v4L r v, (d : Int) + (h : Int), if 0 < q then (o : Int) else 0, q, (v % 2 ^ q : Nat), endL r v, (a : Int) + (b : Int), ownL r v⟩ := by
    unfold edg pidV
    rw [hn.e4, hn.eh, hn.eq, hn.eo, hn.e6, hn.eb, Int.toNat_natCast]
    have q3 : (if (0 : Int) < (q : Int) then (o : Int) else 0) = if 0 < q then (o : Int) else 0 := by
      by_cases c : 0 < q
      · rw [if_pos c, if_pos (by omega)]
      · rw [if_neg c, if_neg (by omega)]
    rw [q3]
  rw [hEdg] at HQ
  clear hEdg
  obtain ⟨oo, hoo⟩ : ∃ oo : Int, oo = (if 0 < q then (o : Int) else 0) := ⟨_, rfl⟩
  rw [← hoo] at HQ
  have HOO : Hid _ := hoo
  have HPID : Hid (q = 0 → v % 2 ^ q = 0) := fun e => by rw [e]; omega
  have HHOST0 : True := trivial
  have HHST : Hid (q = 0 → v / 2 ^ q = v) := fun e => by rw [e]; omega
  clear hoo hOW hz80
  generalize hX1 : writeL (endL r v) 80 32 (accN (v4L r v) 0 32) 32 = x1 at *
  obtain ⟨host, hHost⟩ : ∃ host, v / 2 ^ q = host := ⟨_, rfl⟩
  rw [hHost] at HV4 HHST hvq
  have HHOST : Hid (v / 2 ^ q = host) := hHost
  generalize hPid : v % 2 ^ q = pid at *
  generalize hV4 : v4L r v = l4e at *
  generalize hE6 : endL r v = l6e at *
  generalize hOw : ownL r v = lwe at *
  have HC16 : Hid (∀ W : World, W.heap[w.heap.size]? = some (RO r) → W.cell? ⟨w.heap.size, 16, none⟩ = some (.int .i64 (a : Nat))) := fun W hS => by rw [← hn.e6]; exact (RuAt.of hr hS).c16
  have HC21 : Hid (∀ W : World, W.heap[w.heap.size]? = some (RO r) → W.cell? ⟨w.heap.size, 21, none⟩ = some (.int .i64 (d : Nat))) := fun W hS => by rw [← hn.e4]; exact (RuAt.of hr hS).c21
  have HC22 : Hid (∀ W : World, W.heap[w.heap.size]? = some (RO r) → W.cell? ⟨w.heap.size, 22, none⟩ = some (.int .i64 (b : Nat))) := fun W hS => by rw [← hn.eb]; exact (RuAt.of hr hS).c22
  have HC23 : Hid (∀ W : World, W.heap[w.heap.size]? = some (RO r) → W.cell? ⟨w.heap.size, 23, none⟩ = some (.int .i64 (o : Nat))) := fun W hS => by rw [← hn.eo]; exact (RuAt.of hr hS).c23
  have HLDR : Hid (∀ W : World, W.heap[w.heap.size]? = some (RO r) → (Instr.loadAt 65 (.pointer (some ⟨w.heap.size, 0, none⟩))).run Tryz.prog W = .ok (RV r) W) := fun W hS => (RuAt.of hr hS).ldR
  have HLA6 : Hid (∀ W : World, W.heap[w.heap.size]? = some (RO r) → (Instr.loadAt 24 (.pointer (some ⟨w.heap.size, 0, none⟩))).run Tryz.prog W = .ok (A6 r.l6) W) := fun W hS => (RuAt.of hr hS).la6
  have HLA4 : Hid (∀ W : World, W.heap[w.heap.size]? = some (RO r) → (Instr.loadAt 61 (.pointer (some ⟨w.heap.size, 17, none⟩))).run Tryz.prog W = .ok (A4L r.l4) W) := fun W hS => (RuAt.of hr hS).la4
  clear hX1 hHost hPid hV4 hE6 hOw hn hm hok hr
  obtain ⟨hb, hb2, hBw⟩ := two_box' w (RO r) (.cells zeroEL.toArray 69)
  have hA0 : HasAll [(w.heap.size, RO r), (w.heap.size + 1, .cells zeroEL.toArray 69)] ((w.alloc (RO r)).alloc (.cells zeroEL.toArray 69)) := ((HasAll.nil _).cons hb2).cons hb
  generalize hW : (w.alloc (RO r)).alloc (.cells zeroEL.toArray 69) = W at *
  have hdW : Below W.heap.size W W.drew := (Below.refl _ W).drew
  have hA1d := hA0.on hdW
  have hB1d := hBw.trans (hdW.mono hBw.size)
  clear hb hb2
  go_enter Tryz.func59, Tryz.ntmps59
  go_wp2_with fail
  refine region_mid (fun a0 a' w' => ∃ c5, a' = (((((((((((((((((((a0.put (some 10) (.pointer (some ⟨w.heap.size, 0, none⟩))).put (some 11) (.pointer (some ⟨w.heap.size, 0, none⟩))).put (some 12) (A6 r.l6)).put (some 13) (.pointer (some ⟨w.heap.size, 0, none⟩))).put (some 14) (.pointer (some ⟨w.heap.size, 16, none⟩))).put (some 15) (.int .i64 (a : Nat))).put (some 16) (.pointer (some ⟨w.heap.size, 22, none⟩))).put (some 17) (.int .i64 (b : Nat))).put (some 18) (.int .u64 (v : Nat))).put (some 20) (.pointer (some ⟨w.heap.size, 0, none⟩))).put (some 21) (.pointer (some ⟨w.heap.size, 16, none⟩))).put (some 22) (.int .i64 (a : Nat))).put (some 23) (.pointer (some ⟨w.heap.size, 22, none⟩))).put (some 24) (.int .i64 (b : Nat))).put (some 25) (.int .i64 ((a : Int) + (b : Int)))).put (some 19) (A6 l6e)).put (some 26) (P6 l6e ((a : Int) + (b : Int)))).put (some 27) (EV { zeroEd with l6 := l6e, n6 := (a : Int) + (b : Int) })).put (some 5) (.pointer (some ⟨c5, 0, none⟩))) ∧ w.heap.size + 1 < c5 ∧ w'.heap[c5]? = some (EO { zeroEd with l6 := l6e, n6 := (a : Int) + (b : Int) }) ∧ HasAll [(w.heap.size, RO r), (w.heap.size + 1, .cells zeroEL.toArray 69)] w' ∧ Below w.heap.size w w') ?_ ?_
  · skip
    refine wp_region_held (S := fun W => W.heap[w.heap.size]? = some (RO r)) (by kernel_rfl) ?_
    show wpAnyH _ _ _ _ _ 20 (Array.replicate 20 false) _ W.drew
    have hs0 := hA1d _ (.head _)
    refine take_one (i := 0) (d := some 10) (v := .pointer (some ⟨w.heap.size, 0, none⟩)) rfl rfl rfl (by kernel_rfl) (by kernel_rfl) (by kernel_rfl) (fun _ _ _ _ _ h => h.elim) (fun W hS => by kernel_rfl) hs0 ?_
    simp only [Act.put, List.setIfInBounds_toArray, List.set_cons_zero, List.set_cons_succ]
    refine take_one (i := 1) (d := some 11) (v := .pointer (some ⟨w.heap.size, 0, none⟩)) rfl rfl rfl (by kernel_rfl) (by kernel_rfl) (by kernel_rfl) (fun _ _ _ _ _ h => h.elim) (fun W hS => by kernel_rfl) hs0 ?_
    simp only [Act.put, List.setIfInBounds_toArray, List.set_cons_zero, List.set_cons_succ]
    refine take_one (i := 2) (d := some 12) (v := A6 r.l6) rfl rfl rfl (by kernel_rfl) (by kernel_rfl) (by kernel_rfl) (fun _ _ _ _ _ h => h.elim) (fun W hS => ex_loadA (.tmp 11) 24 rfl rfl (HLA6.out W hS)) hs0 ?_
    simp only [Act.put, List.setIfInBounds_toArray, List.set_cons_zero, List.set_cons_succ]
    refine take_one (i := 3) (d := some 13) (v := .pointer (some ⟨w.heap.size, 0, none⟩)) rfl rfl rfl (by kernel_rfl) (by kernel_rfl) (by kernel_rfl) (fun _ _ _ _ _ h => h.elim) (fun W hS => by kernel_rfl) hs0 ?_
    simp only [Act.put, List.setIfInBounds_toArray, List.set_cons_zero, List.set_cons_succ]
    refine take_one (i := 4) (d := some 14) (v := .pointer (some ⟨w.heap.size, 16, none⟩)) rfl rfl rfl (by kernel_rfl) (by kernel_rfl) (by kernel_rfl) (fun _ _ _ _ _ h => h.elim) (fun W hS => by kernel_rfl) hs0 ?_
    simp only [Act.put, List.setIfInBounds_toArray, List.set_cons_zero, List.set_cons_succ]
    refine take_one (i := 5) (d := some 15) (v := .int .i64 (a : Nat)) rfl rfl rfl (by kernel_rfl) (by kernel_rfl) (by kernel_rfl) (fun _ _ _ _ _ h => h.elim) (fun W hS => ex_loadC 14 rfl rfl (HC16.out W hS)) hs0 ?_
    simp only [Act.put, List.setIfInBounds_toArray, List.set_cons_zero, List.set_cons_succ]
    refine take_one (i := 6) (d := some 16) (v := .pointer (some ⟨w.heap.size, 22, none⟩)) rfl rfl rfl (by kernel_rfl) (by kernel_rfl) (by kernel_rfl) (fun _ _ _ _ _ h => h.elim) (fun W hS => by kernel_rfl) hs0 ?_
    simp only [Act.put, List.setIfInBounds_toArray, List.set_cons_zero, List.set_cons_succ]
    refine take_one (i := 7) (d := some 17) (v := .int .i64 (b : Nat)) rfl rfl rfl (by kernel_rfl) (by kernel_rfl) (by kernel_rfl) (fun _ _ _ _ _ h => h.elim) (fun W hS => ex_loadC 16 rfl rfl (HC22.out W hS)) hs0 ?_
    simp only [Act.put, List.setIfInBounds_toArray, List.set_cons_zero, List.set_cons_succ]
    refine take_one (i := 8) (d := some 18) (v := .int .u64 (v : Nat)) rfl rfl rfl (by kernel_rfl) (by kernel_rfl) (by kernel_rfl) (fun _ _ _ _ _ h => h.elim) (fun W hS => by kernel_rfl) hs0 ?_
    simp only [Act.put, List.setIfInBounds_toArray, List.set_cons_zero, List.set_cons_succ]
    refine take_one (i := 10) (d := some 20) (v := .pointer (some ⟨w.heap.size, 0, none⟩)) rfl rfl rfl (by kernel_rfl) (by kernel_rfl) (by kernel_rfl) (fun _ _ _ _ _ h => h.elim) (fun W hS => by kernel_rfl) hs0 ?_
    simp only [Act.put, List.setIfInBounds_toArray, List.set_cons_zero, List.set_cons_succ]
    refine take_one (i := 11) (d := some 21) (v := .pointer (some ⟨w.heap.size, 16, none⟩)) rfl rfl rfl (by kernel_rfl) (by kernel_rfl) (by kernel_rfl) (fun _ _ _ _ _ h => h.elim) (fun W hS => by kernel_rfl) hs0 ?_
    simp only [Act.put, List.setIfInBounds_toArray, List.set_cons_zero, List.set_cons_succ]
    refine take_one (i := 12) (d := some 22) (v := .int .i64 (a : Nat)) rfl rfl rfl (by kernel_rfl) (by kernel_rfl) (by kernel_rfl) (fun _ _ _ _ _ h => h.elim) (fun W hS => ex_loadC 21 rfl rfl (HC16.out W hS)) hs0 ?_
    simp only [Act.put, List.setIfInBounds_toArray, List.set_cons_zero, List.set_cons_succ]
    refine take_one (i := 13) (d := some 23) (v := .pointer (some ⟨w.heap.size, 22, none⟩)) rfl rfl rfl (by kernel_rfl) (by kernel_rfl) (by kernel_rfl) (fun _ _ _ _ _ h => h.elim) (fun W hS => by kernel_rfl) hs0 ?_
    simp only [Act.put, List.setIfInBounds_toArray, List.set_cons_zero, List.set_cons_succ]
    refine take_one (i := 14) (d := some 24) (v := .int .i64 (b : Nat)) rfl rfl rfl (by kernel_rfl) (by kernel_rfl) (by kernel_rfl) (fun _ _ _ _ _ h => h.elim) (fun W hS => ex_loadC 23 rfl rfl (HC22.out W hS)) hs0 ?_
    simp only [Act.put, List.setIfInBounds_toArray, List.set_cons_zero, List.set_cons_succ]
    refine take_one (i := 15) (d := some 25) (v := .int .i64 ((a : Int) + (b : Int))) rfl rfl rfl (by kernel_rfl) (by kernel_rfl) (by kernel_rfl) (fun _ _ _ _ _ h => h.elim) (fun W hS => ex_addC (.tmp 22) (.tmp 24) rfl rfl rfl (by omega)) hs0 ?_
    simp only [Act.put, List.setIfInBounds_toArray, List.set_cons_zero, List.set_cons_succ]
    refine all_two (i1 := 9) (i2 := 18) (by kernel_rfl) rfl rfl rfl rfl ?_ ?_
    · refine wp_call (d := some 19) 103 _ rfl (by kernel_rfl) (callR (HE6.out _)) ?_
      rintro _ y1 ⟨rfl, g1⟩
      have hAy := hA1d.on g1
      have hBy := hB1d.trans (g1.mono hB1d.size)
      refine ⟨hAy _ (.head _), ?_⟩
      simp only [Act.put, List.setIfInBounds_toArray, List.set_cons_zero, List.set_cons_succ]
      refine take_one (i := 16) (d := some 26) (v := P6 l6e ((a : Int) + (b : Int))) rfl rfl rfl (by kernel_rfl) (by kernel_rfl) (by kernel_rfl) (fun _ _ _ _ _ h => h.elim) (fun W hS => ex_buildA 26 [(0, .tmp 19), (1, .tmp 25)] rfl rfl (build6 l6e _ e6k _)) (hAy _ (.head _)) ?_
      simp only [Act.put, List.setIfInBounds_toArray, List.set_cons_zero, List.set_cons_succ]
      refine take_one (i := 17) (d := some 27) (v := EV { zeroEd with l6 := l6e, n6 := (a : Int) + (b : Int) }) rfl rfl rfl (by kernel_rfl) (by kernel_rfl) (by kernel_rfl) (fun _ _ _ _ _ h => h.elim) (fun W hS => ex_buildA 69 [(2, .tmp 26)] rfl rfl (build_e l6e _ e6k _)) (hAy _ (.head _)) ?_
      simp only [Act.put, List.setIfInBounds_toArray, List.set_cons_zero, List.set_cons_succ]
      refine all_one (i := 18) (by kernel_rfl) rfl rfl ?_
      refine wp_newX (d := some 5) (v := fun c => .pointer (some ⟨c, 0, none⟩)) (z := .cells zeroEL.toArray 69) rfl (by simp [execOp, go_sem]) ?_
      intro c5 y2 ec5 n5 g2
      have l5 : w.heap.size + 1 < c5 := by have := hAy.lt (.tail _ (.head _)); simp only at this; omega
      have hAz := hAy.on g2
      have hBz := hBy.trans (g2.mono hBy.size)
      refine ⟨hAz _ (.head _), ?_⟩
      simp only [Act.put, List.setIfInBounds_toArray, List.set_cons_zero, List.set_cons_succ]
      obtain ⟨y9, hst9, hb9, hon9⟩ := box_store Tryz.sizeOf69 n5 rfl (edC { zeroEd with l6 := l6e, n6 := (a : Int) + (b : Int) }) (edC_length rfl e6k rfl) (edC_one _)
      have hA9 := HasAll.only (c := c5) hAz hon9 (by intro p hp; rcases hp with _ | ⟨_, _ | ⟨_, hp⟩⟩ <;> first | omega | cases hp)
      refine all_one (i := 19) (by kernel_rfl) rfl rfl ?_
      refine wp_storeA (.tmp 5) (.tmp 27) 69 rfl rfl rfl rfl hst9 ⟨hA9 _ (.head _), ?_⟩
      refine wpAnyH_done (by kernel_rfl) ?_ _
      exact ⟨c5, rfl, l5, hb9, hA9, hBz.trans (hon9.below (by omega))⟩
    · refine wp_newX (d := some 5) (v := fun c => .pointer (some ⟨c, 0, none⟩)) (z := .cells zeroEL.toArray 69) rfl (by simp [execOp, go_sem]) ?_
      intro c5 y1 ec5 n5 g1
      have l5 : w.heap.size + 1 < c5 := by have := hA1d.lt (.tail _ (.head _)); simp only at this; omega
      have hAy := hA1d.on g1
      have hBy := hB1d.trans (g1.mono hB1d.size)
      refine ⟨hAy _ (.head _), ?_⟩
      simp only [Act.put, List.setIfInBounds_toArray, List.set_cons_zero, List.set_cons_succ]
      refine all_one (i := 9) (by kernel_rfl) rfl rfl ?_
      refine wp_call (d := some 19) 103 _ rfl (by kernel_rfl) (callR (HE6.out _)) ?_
      rintro _ y2 ⟨rfl, g2⟩
      have hAz := hAy.on g2
      have hBz := hBy.trans (g2.mono hBy.size)
      have n5z := blk_on n5 g2
      refine ⟨hAz _ (.head _), ?_⟩
      simp only [Act.put, List.setIfInBounds_toArray, List.set_cons_zero, List.set_cons_succ]
      refine take_one (i := 16) (d := some 26) (v := P6 l6e ((a : Int) + (b : Int))) rfl rfl rfl (by kernel_rfl) (by kernel_rfl) (by kernel_rfl) (fun _ _ _ _ _ h => h.elim) (fun W hS => ex_buildA 26 [(0, .tmp 19), (1, .tmp 25)] rfl rfl (build6 l6e _ e6k _)) (hAz _ (.head _)) ?_
      simp only [Act.put, List.setIfInBounds_toArray, List.set_cons_zero, List.set_cons_succ]
      refine take_one (i := 17) (d := some 27) (v := EV { zeroEd with l6 := l6e, n6 := (a : Int) + (b : Int) }) rfl rfl rfl (by kernel_rfl) (by kernel_rfl) (by kernel_rfl) (fun _ _ _ _ _ h => h.elim) (fun W hS => ex_buildA 69 [(2, .tmp 26)] rfl rfl (build_e l6e _ e6k _)) (hAz _ (.head _)) ?_
      simp only [Act.put, List.setIfInBounds_toArray, List.set_cons_zero, List.set_cons_succ]
      obtain ⟨y9, hst9, hb9, hon9⟩ := box_store Tryz.sizeOf69 n5z rfl (edC { zeroEd with l6 := l6e, n6 := (a : Int) + (b : Int) }) (edC_length rfl e6k rfl) (edC_one _)
      have hA9 := HasAll.only (c := c5) hAz hon9 (by intro p hp; rcases hp with _ | ⟨_, _ | ⟨_, hp⟩⟩ <;> first | omega | cases hp)
      refine all_one (i := 19) (by kernel_rfl) rfl rfl ?_
      refine wp_storeA (.tmp 5) (.tmp 27) 69 rfl rfl rfl rfl hst9 ⟨hA9 _ (.head _), ?_⟩
      refine wpAnyH_done (by kernel_rfl) ?_ _
      exact ⟨c5, rfl, l5, hb9, hA9, hBz.trans (hon9.below (by omega))⟩
  rintro a' w2 ⟨c5, rfl, l5, hb5, hA2, hB2⟩
  simp only [Act.put, List.setIfInBounds_toArray, List.set_cons_zero, List.set_cons_succ]
  clear hA0 hA1d hB1d hBw HE6 HC16 HLA6 hdW
  have HNE : Hid (∀ p ∈ [(w.heap.size, RO r), (w.heap.size + 1, .cells zeroEL.toArray 69)], p.1 ≠ c5) := by
    intro p hp
    rcases hp with _ | ⟨_, _ | ⟨_, hp⟩⟩ <;> first | (simp only; omega) | cases hp
  have HL2 : Hid _ := HLDR.out w2 (hA2 _ (.head _))
  go_wp2_with first
    | ((with_reducible show wpList _ _ _ _ _ _); refine armL (.tmp 2) 65 rfl rfl rfl HL2.out ?_)
  refine (HSH.out _).mono ?_
  rintro e W3 ⟨rfl, g3⟩
  have hA3 := hA2.on g3
  have hb3 := blk_on hb5 g3
  have hB3 := hB2.trans (g3.mono hB2.size)
  clear hA2 hb5 hB2 g3 HSH HL2
  by_cases hq : 0 < q
  focus
    have hq1 : decide (0 < q) = true := decide_eq_true hq
    rw [hq1]
    have hful := HFULL.out hq
    have hsf : (32 : Int) - (d : Int) = (h : Int) := by omega
    have HSF2 : Hid (∀ W, Calls Tryz.prog 57 #[RV r] W fun e w' => e = .returned (.int .i64 (h : Nat)) ∧ Below W.heap.size W w') := fun W => by have := HSF.out W; rw [hsf] at this; exact this
    have h32 : (d : Int) + (h : Int) = 32 := by omega
    have HH32 : Hid _ := h32
    have hd3 : Below W3.heap.size W3 W3.drew := (Below.refl _ W3).drew
    have hA3d := hA3.on hd3
    have hb3d := blk_on hb3 hd3
    have hB3d := hB3.trans (hd3.mono hB3.size)
    clear hq1 hful hsf h32
    go_wp2_with fail
    refine wp_region_held (S := fun W => W.heap[w.heap.size]? = some (RO r)) (by kernel_rfl) ?_
    show wpAnyH _ _ _ _ _ 16 (Array.replicate 16 false) _ W3.drew
    have hs0 := hA3d _ (.head _)
    refine take_one (i := 0) (d := some 34) (v := .pointer (some ⟨w.heap.size, 17, none⟩)) rfl rfl rfl (by kernel_rfl) (by kernel_rfl) (by kernel_rfl) (fun _ _ d _ _ h => by cases d <;> exact h) (fun W hS => by kernel_rfl) hs0 ?_
    simp only [Act.put, List.setIfInBounds_toArray, List.set_cons_zero, List.set_cons_succ]
    refine take_one (i := 1) (d := some 35) (v := .pointer (some ⟨w.heap.size, 17, none⟩)) rfl rfl rfl (by kernel_rfl) (by kernel_rfl) (by kernel_rfl) (fun _ _ d _ _ h => by cases d <;> exact h) (fun W hS => by kernel_rfl) hs0 ?_
    simp only [Act.put, List.setIfInBounds_toArray, List.set_cons_zero, List.set_cons_succ]
    refine take_one (i := 2) (d := some 36) (v := A4L r.l4) rfl rfl rfl (by kernel_rfl) (by kernel_rfl) (by kernel_rfl) (fun _ _ d _ _ h => by cases d <;> exact h) (fun W hS => ex_loadA (.tmp 35) 61 rfl rfl (HLA4.out W hS)) hs0 ?_
    simp only [Act.put, List.setIfInBounds_toArray, List.set_cons_zero, List.set_cons_succ]
    refine take_one (i := 3) (d := some 37) (v := .pointer (some ⟨w.heap.size, 17, none⟩)) rfl rfl rfl (by kernel_rfl) (by kernel_rfl) (by kernel_rfl) (fun _ _ d _ _ h => by cases d <;> exact h) (fun W hS => by kernel_rfl) hs0 ?_
    simp only [Act.put, List.setIfInBounds_toArray, List.set_cons_zero, List.set_cons_succ]
    refine take_one (i := 4) (d := some 38) (v := .pointer (some ⟨w.heap.size, 21, none⟩)) rfl rfl rfl (by kernel_rfl) (by kernel_rfl) (by kernel_rfl) (fun _ _ d _ _ h => by cases d <;> exact h) (fun W hS => by kernel_rfl) hs0 ?_
    simp only [Act.put, List.setIfInBounds_toArray, List.set_cons_zero, List.set_cons_succ]
    refine take_one (i := 5) (d := some 39) (v := .int .i64 (d : Nat)) rfl rfl rfl (by kernel_rfl) (by kernel_rfl) (by kernel_rfl) (fun _ _ d _ _ h => by cases d <;> exact h) (fun W hS => ex_loadC 38 rfl rfl (HC21.out W hS)) hs0 ?_
    simp only [Act.put, List.setIfInBounds_toArray, List.set_cons_zero, List.set_cons_succ]
    refine take_one (i := 6) (d := some 40) (v := RV r) rfl rfl rfl (by kernel_rfl) (by kernel_rfl) (by kernel_rfl) (fun _ _ d _ _ h => by cases d <;> exact h) (fun W hS => ex_loadA (.tmp 2) 65 rfl rfl (HLDR.out W hS)) hs0 ?_
    simp only [Act.put, List.setIfInBounds_toArray, List.set_cons_zero, List.set_cons_succ]
    refine take_one (i := 8) (d := some 42) (v := .int .u64 (v : Nat)) rfl rfl rfl (by kernel_rfl) (by kernel_rfl) (by kernel_rfl) (fun _ _ d _ _ h => by cases d <;> exact h) (fun W hS => by kernel_rfl) hs0 ?_
    simp only [Act.put, List.setIfInBounds_toArray, List.set_cons_zero, List.set_cons_succ]
    refine take_one (i := 9) (d := some 43) (v := .int .i64 (q : Nat)) rfl rfl rfl (by kernel_rfl) (by kernel_rfl) (by kernel_rfl) (fun _ _ d _ _ h => by cases d <;> exact h) (fun W hS => by kernel_rfl) hs0 ?_
    simp only [Act.put, List.setIfInBounds_toArray, List.set_cons_zero, List.set_cons_succ]
    refine take_one (i := 10) (d := some 44) (v := .int .u64 (q : Nat)) rfl rfl rfl (by kernel_rfl) (by kernel_rfl) (by kernel_rfl) (fun _ _ d _ _ h => by cases d <;> exact h) (fun W hS => ex_cvI 43 rfl rfl (by omega)) hs0 ?_
    simp only [Act.put, List.setIfInBounds_toArray, List.set_cons_zero, List.set_cons_succ]
    refine take_one (i := 11) (d := some 45) (v := .int .u64 (host : Nat)) rfl rfl rfl (by kernel_rfl) (by kernel_rfl) (by kernel_rfl) (fun _ _ d _ _ h => by cases d <;> exact h) (fun W hS => (by rw [← HHOST.out]; exact ex_shrU 42 44 rfl rfl rfl (by omega))) hs0 ?_
    simp only [Act.put, List.setIfInBounds_toArray, List.set_cons_zero, List.set_cons_succ]
    refine all_one (i := 7) (by kernel_rfl) rfl rfl ?_
    refine wp_call (d := some 41) 57 _ rfl (by kernel_rfl) (callR (HSF2.out _)) ?_
    rintro _ W4 ⟨rfl, g4⟩
    have hA4 := hA3d.on g4
    have hb4 := blk_on hb3d g4
    have hB4 := hB3d.trans (g4.mono hB3d.size)
    refine ⟨(hA4 _ (.head _)), ?_⟩
    simp only [Act.put, List.setIfInBounds_toArray, List.set_cons_zero, List.set_cons_succ]
    refine all_one (i := 12) (by kernel_rfl) rfl rfl ?_
    refine wp_call (d := some 46) 104 _ rfl (by kernel_rfl) (callR (HV4.out _)) ?_
    rintro _ W5 ⟨rfl, g5⟩
    have hA5 := hA4.on g5
    have hb5 := blk_on hb4 g5
    have hB5 := hB4.trans (g5.mono hB4.size)
    refine ⟨(hA5 _ (.head _)), ?_⟩
    simp only [Act.put, List.setIfInBounds_toArray, List.set_cons_zero, List.set_cons_succ]
    refine take_one (i := 13) (d := some 47) (v := P4L l4e 32) rfl rfl rfl (by kernel_rfl) (by kernel_rfl) (by kernel_rfl) (fun _ _ d _ _ h => by cases d <;> exact h) (fun W hS => ex_buildA 63 [(0, .tmp 46), (1, .const (.int .i64 32))] rfl rfl (build4L l4e _ e4k _)) (hA5 _ (.head _)) ?_
    simp only [Act.put, List.setIfInBounds_toArray, List.set_cons_zero, List.set_cons_succ]
    refine take_one (i := 14) (d := some 48) (v := .pointer (some ⟨c5, 0, none⟩)) rfl rfl rfl (by kernel_rfl) (by kernel_rfl) (by kernel_rfl) (fun _ _ d _ _ h => by cases d <;> exact h) (fun W hS => by kernel_rfl) (hA5 _ (.head _)) ?_
    simp only [Act.put, List.setIfInBounds_toArray, List.set_cons_zero, List.set_cons_succ]
    obtain ⟨W6, hst6, hb6, hon6⟩ := box_part Tryz.sizeOf63 hb5 (cp4 l4e 32) (cp4_length _ _ e4k) (o := 0) (by rw [edC_length rfl e6k rfl]; omega) (cp4_one _ _)
    rw [ed_v4 rfl l4e _] at hb6
    have hA6 := hA5.only hon6 HNE.out
    have hB6 := hB5.trans (hon6.below (by omega))
    refine all_one (i := 15) (by kernel_rfl) rfl rfl ?_
    refine wp_storeA (.tmp 48) (.tmp 47) 63 rfl rfl rfl rfl hst6 ⟨(hA6 _ (.head _)), ?_⟩
    refine wpAnyH_done (by kernel_rfl) ?_ _
    have c23 := HC23.out W6 (hA6 _ (.head _))
    obtain ⟨W7, hst7, hb7, hon7⟩ := box_part Tryz.sizeOf67 hb6 (PSL o q pid) rfl (o := 5) (by rw [edC_length e4k e6k rfl]; omega) (by simp [PSL, Value.oneCell'])
    rw [ed_set e4k o q pid] at hb7
    have hA7 := hA6.only hon7 HNE.out
    have hB7 := hB6.trans (hon7.below (by omega))
    have hwp : IntKind.u16.wrap (pid : Int) = pid := by rw [wrap_u16]; omega
    have hoo : oo = o := by rw [HOO.out]; exact if_pos hq
    have hX : W7.heap[c5]? = some (EO ⟨l4e, (d : Int) + (h : Int), oo, q, (pid : Nat), l6e, (a : Int) + (b : Int), zeroEd.ow⟩) := by rw [hoo, HH32.out]; exact hb7
    have HST7 : Hid _ := hst7
    obtain ⟨X, hXe⟩ : ∃ X, X = W7 := ⟨_, rfl⟩
    have hAX : HasAll [(w.heap.size, RO r), (w.heap.size + 1, .cells zeroEL.toArray 69)] X := by rw [hXe]; exact hA7
    have hBX : Below w.heap.size w X := by rw [hXe]; exact hB7
    rw [← hXe] at hX HST7
    clear hA3 hb3 hB3 hA3d hb3d hB3d hA4 hb4 hB4 hA5 hb5 hB5 hA6 hb6 hB6 hst6 hon6 hst7 hon7 hb7 hA7 hB7 hXe hoo hq g4 g5 hd3 HSF2

    go_wp2_with first
      | ((with_reducible show wpList _ _ _ _ _ _); refine armS (.tmp 60) (.tmp 59) 67 rfl rfl rfl rfl HST7.out ?_)
  rotate_left
  focus
    have hq1 : decide (0 < q) = false := decide_eq_false hq
    rw [hq1]
    have hq0 : q = 0 := by omega
    have hp0 := HPID.out hq0
    have hh0 := HHST.out hq0
    have hbh : b = h := by have := HSUM.out; omega
    have HV4b : Hid (∀ W, Calls Tryz.prog 104 #[A4L r.l4, .int .i64 d, .int .i64 b, .int .u64 (v : Nat)] W fun e w' => e = .returned (A4L l4e) ∧ Below W.heap.size W w') := fun W => by have := HV4.out W; rw [hh0, ← hbh] at this; exact this
    have HBH : Hid _ := hbh
    have HP0 : Hid (oo = 0 ∧ q = 0 ∧ pid = 0) := ⟨by rw [HOO.out]; exact if_neg hq, hq0, hp0⟩
    have hd3 : Below W3.heap.size W3 W3.drew := (Below.refl _ W3).drew
    have hA3d := hA3.on hd3
    have hb3d := blk_on hb3 hd3
    have hB3d := hB3.trans (hd3.mono hB3.size)
    clear hq1 hq0 hp0 hh0 hbh hq
    go_wp2_with fail
    refine wp_region_held (S := fun W => W.heap[w.heap.size]? = some (RO r)) (by kernel_rfl) ?_
    show wpAnyH _ _ _ _ _ 19 (Array.replicate 19 false) _ W3.drew
    have hs0 := hA3d _ (.head _)
    refine take_one (i := 0) (d := some 61) (v := .pointer (some ⟨w.heap.size, 17, none⟩)) rfl rfl rfl (by kernel_rfl) (by kernel_rfl) (by kernel_rfl) (fun _ _ d _ _ h => by cases d <;> exact h) (fun W hS => by kernel_rfl) hs0 ?_
    simp only [Act.put, List.setIfInBounds_toArray, List.set_cons_zero, List.set_cons_succ]
    refine take_one (i := 1) (d := some 62) (v := .pointer (some ⟨w.heap.size, 17, none⟩)) rfl rfl rfl (by kernel_rfl) (by kernel_rfl) (by kernel_rfl) (fun _ _ d _ _ h => by cases d <;> exact h) (fun W hS => by kernel_rfl) hs0 ?_
    simp only [Act.put, List.setIfInBounds_toArray, List.set_cons_zero, List.set_cons_succ]
    refine take_one (i := 2) (d := some 63) (v := A4L r.l4) rfl rfl rfl (by kernel_rfl) (by kernel_rfl) (by kernel_rfl) (fun _ _ d _ _ h => by cases d <;> exact h) (fun W hS => ex_loadA (.tmp 62) 61 rfl rfl (HLA4.out W hS)) hs0 ?_
    simp only [Act.put, List.setIfInBounds_toArray, List.set_cons_zero, List.set_cons_succ]
    refine take_one (i := 3) (d := some 64) (v := .pointer (some ⟨w.heap.size, 17, none⟩)) rfl rfl rfl (by kernel_rfl) (by kernel_rfl) (by kernel_rfl) (fun _ _ d _ _ h => by cases d <;> exact h) (fun W hS => by kernel_rfl) hs0 ?_
    simp only [Act.put, List.setIfInBounds_toArray, List.set_cons_zero, List.set_cons_succ]
    refine take_one (i := 4) (d := some 65) (v := .pointer (some ⟨w.heap.size, 21, none⟩)) rfl rfl rfl (by kernel_rfl) (by kernel_rfl) (by kernel_rfl) (fun _ _ d _ _ h => by cases d <;> exact h) (fun W hS => by kernel_rfl) hs0 ?_
    simp only [Act.put, List.setIfInBounds_toArray, List.set_cons_zero, List.set_cons_succ]
    refine take_one (i := 5) (d := some 66) (v := .int .i64 (d : Nat)) rfl rfl rfl (by kernel_rfl) (by kernel_rfl) (by kernel_rfl) (fun _ _ d _ _ h => by cases d <;> exact h) (fun W hS => ex_loadC 65 rfl rfl (HC21.out W hS)) hs0 ?_
    simp only [Act.put, List.setIfInBounds_toArray, List.set_cons_zero, List.set_cons_succ]
    refine take_one (i := 6) (d := some 67) (v := .pointer (some ⟨w.heap.size, 22, none⟩)) rfl rfl rfl (by kernel_rfl) (by kernel_rfl) (by kernel_rfl) (fun _ _ d _ _ h => by cases d <;> exact h) (fun W hS => by kernel_rfl) hs0 ?_
    simp only [Act.put, List.setIfInBounds_toArray, List.set_cons_zero, List.set_cons_succ]
    refine take_one (i := 7) (d := some 68) (v := .int .i64 (b : Nat)) rfl rfl rfl (by kernel_rfl) (by kernel_rfl) (by kernel_rfl) (fun _ _ d _ _ h => by cases d <;> exact h) (fun W hS => ex_loadC 67 rfl rfl (HC22.out W hS)) hs0 ?_
    simp only [Act.put, List.setIfInBounds_toArray, List.set_cons_zero, List.set_cons_succ]
    refine take_one (i := 8) (d := some 69) (v := .int .u64 (v : Nat)) rfl rfl rfl (by kernel_rfl) (by kernel_rfl) (by kernel_rfl) (fun _ _ d _ _ h => by cases d <;> exact h) (fun W hS => by kernel_rfl) hs0 ?_
    simp only [Act.put, List.setIfInBounds_toArray, List.set_cons_zero, List.set_cons_succ]
    refine take_one (i := 10) (d := some 71) (v := .pointer (some ⟨w.heap.size, 17, none⟩)) rfl rfl rfl (by kernel_rfl) (by kernel_rfl) (by kernel_rfl) (fun _ _ d _ _ h => by cases d <;> exact h) (fun W hS => by kernel_rfl) hs0 ?_
    simp only [Act.put, List.setIfInBounds_toArray, List.set_cons_zero, List.set_cons_succ]
    refine take_one (i := 11) (d := some 72) (v := .pointer (some ⟨w.heap.size, 21, none⟩)) rfl rfl rfl (by kernel_rfl) (by kernel_rfl) (by kernel_rfl) (fun _ _ d _ _ h => by cases d <;> exact h) (fun W hS => by kernel_rfl) hs0 ?_
    simp only [Act.put, List.setIfInBounds_toArray, List.set_cons_zero, List.set_cons_succ]
    refine take_one (i := 12) (d := some 73) (v := .int .i64 (d : Nat)) rfl rfl rfl (by kernel_rfl) (by kernel_rfl) (by kernel_rfl) (fun _ _ d _ _ h => by cases d <;> exact h) (fun W hS => ex_loadC 72 rfl rfl (HC21.out W hS)) hs0 ?_
    simp only [Act.put, List.setIfInBounds_toArray, List.set_cons_zero, List.set_cons_succ]
    refine take_one (i := 13) (d := some 74) (v := .pointer (some ⟨w.heap.size, 22, none⟩)) rfl rfl rfl (by kernel_rfl) (by kernel_rfl) (by kernel_rfl) (fun _ _ d _ _ h => by cases d <;> exact h) (fun W hS => by kernel_rfl) hs0 ?_
    simp only [Act.put, List.setIfInBounds_toArray, List.set_cons_zero, List.set_cons_succ]
    refine take_one (i := 14) (d := some 75) (v := .int .i64 (b : Nat)) rfl rfl rfl (by kernel_rfl) (by kernel_rfl) (by kernel_rfl) (fun _ _ d _ _ h => by cases d <;> exact h) (fun W hS => ex_loadC 74 rfl rfl (HC22.out W hS)) hs0 ?_
    simp only [Act.put, List.setIfInBounds_toArray, List.set_cons_zero, List.set_cons_succ]
    refine take_one (i := 15) (d := some 76) (v := .int .i64 ((d : Int) + (b : Int))) rfl rfl rfl (by kernel_rfl) (by kernel_rfl) (by kernel_rfl) (fun _ _ d _ _ h => by cases d <;> exact h) (fun W hS => ex_addC (.tmp 73) (.tmp 75) rfl rfl rfl (by omega)) hs0 ?_
    simp only [Act.put, List.setIfInBounds_toArray, List.set_cons_zero, List.set_cons_succ]
    refine all_one (i := 9) (by kernel_rfl) rfl rfl ?_
    refine wp_call (d := some 70) 104 _ rfl (by kernel_rfl) (callR (HV4b.out _)) ?_
    rintro _ W5 ⟨rfl, g5⟩
    have hA5 := hA3d.on g5
    have hb5 := blk_on hb3d g5
    have hB5 := hB3d.trans (g5.mono hB3d.size)
    refine ⟨(hA5 _ (.head _)), ?_⟩
    simp only [Act.put, List.setIfInBounds_toArray, List.set_cons_zero, List.set_cons_succ]
    refine take_one (i := 16) (d := some 77) (v := P4L l4e ((d : Int) + (b : Int))) rfl rfl rfl (by kernel_rfl) (by kernel_rfl) (by kernel_rfl) (fun _ _ d _ _ h => by cases d <;> exact h) (fun W hS => ex_buildA 63 [(0, .tmp 70), (1, .tmp 76)] rfl rfl (build4L l4e _ e4k _)) (hA5 _ (.head _)) ?_
    simp only [Act.put, List.setIfInBounds_toArray, List.set_cons_zero, List.set_cons_succ]
    refine take_one (i := 17) (d := some 78) (v := .pointer (some ⟨c5, 0, none⟩)) rfl rfl rfl (by kernel_rfl) (by kernel_rfl) (by kernel_rfl) (fun _ _ d _ _ h => by cases d <;> exact h) (fun W hS => by kernel_rfl) (hA5 _ (.head _)) ?_
    simp only [Act.put, List.setIfInBounds_toArray, List.set_cons_zero, List.set_cons_succ]
    obtain ⟨X, hst6, hb6, hon6⟩ := box_part Tryz.sizeOf63 hb5 (cp4 l4e ((d : Int) + (b : Int))) (cp4_length _ _ e4k) (o := 0) (by rw [edC_length rfl e6k rfl]; omega) (cp4_one _ _)
    rw [ed_v4 rfl l4e _] at hb6
    have hAX := hA5.only hon6 HNE.out
    have hBX := hB5.trans (hon6.below (by omega))
    refine all_one (i := 18) (by kernel_rfl) rfl rfl ?_
    refine wp_storeA (.tmp 78) (.tmp 77) 63 rfl rfl rfl rfl hst6 ⟨(hAX _ (.head _)), ?_⟩
    refine wpAnyH_done (by kernel_rfl) ?_ _
    have hX : X.heap[c5]? = some (EO ⟨l4e, (d : Int) + (h : Int), oo, q, (pid : Nat), l6e, (a : Int) + (b : Int), zeroEd.ow⟩) := by rw [HP0.out.1, HP0.out.2.1, HP0.out.2.2, ← HBH.out]; exact hb6
    clear hA3 hb3 hB3 hA3d hb3d hB3d hA5 hb5 hB5 hb6 hst6 hon6 g5 hd3 HV4b
    go_wp2
  all_goals
    have HAX : Hid (HasAll [(w.heap.size, RO r), (w.heap.size + 1, .cells zeroEL.toArray 69)] X) := hAX
    have HBX : Hid _ := hBX
    have HX : Hid _ := hX
    have HX4 : Hid (∀ j, j < 4 → X.cell? ⟨c5, j, none⟩ = some (.int .u8 (l4e[j]?.getD 0))) := fun j hj => by
      have := (EdAt.of e4k e6k rfl hX).s4 j (.int .u8 (l4e[j]?.getD 0)) (by rw [b8, List.getElem?_map, List.getElem?_eq_getElem (by show j < l4e.length; omega)]; rfl)
      rwa [Nat.zero_add] at this
    clear hAX hBX hX hand k1 k2
    go_loopw [8, 9] (fun x i wr => ∃ k : Nat, k ≤ 4 ∧ i = .int .i64 k ∧ x = .int .u64 (accN l4e 0 (8 * k)) ∧ wr = X) (fun _ i _ => 4 - (intOf i).toNat)
    case atStart => exact ⟨0, by omega, rfl, rfl, rfl⟩
    case round =>
      obtain ⟨k, hk, rfl, rfl, rfl⟩ := hrel
      by_cases hlt : k < 4
      · have hacc := acc_byte e4f k
        have hal := accN_lt l4e 0 (8 * k)
        have hal2 : accN l4e 0 (8 * k) < 2 ^ 24 := Nat.lt_of_lt_of_le hal (Nat.pow_le_pow_right (by decide) (by omega))
        have hz := fit_at e4f k
        have hc := HX4.out k hlt
        obtain ⟨z, hzz⟩ : ∃ z : Nat, (z : Int) = l4e[k]?.getD 0 := ⟨(l4e[k]?.getD 0).toNat, by omega⟩
        rw [← hzz] at hc
        have hz2 : z < 256 := by omega
        rw [← hzz, Int.toNat_natCast] at hacc
        have hor := shl8_or (accN l4e 0 (8 * k)) z hal2 hz2
        rw [← hacc] at hor
        generalize hy : accN l4e 0 (8 * (k + 1)) = y at *
        generalize accN l4e 0 (8 * k) = xx at *
        have HY : Hid _ := hy
        clear hy hacc hal hz hzz HAX HBX HX HX4 HW1 HW2 hx4
        go_wp2
        exact ⟨⟨k + 1, by omega, by simp, by rw [HY.out], trivial⟩, by simp [intOf]; omega⟩
      · obtain rfl : k = 4 := by omega
        rw [show (8 * 4 : Nat) = 32 from rfl]
        have hA4 := HasAll.drew HAX.out
        have hb4 := blk_drew HX.out
        have hB4 := Below.drew HBX.out
        have hS4 : EdO c5 ⟨l4e, (d : Int) + (h : Int), oo, q, (pid : Nat), l6e, (a : Int) + (b : Int), []⟩ _ := ⟨zeroEd.ow, rfl, hb4⟩
        clear HAX HBX HX HX4
        generalize accN l4e 0 32 = x4 at *
        go_wp2_with fail
        refine wp_region_held (S := fun W => EdO c5 ⟨l4e, (d : Int) + (h : Int), oo, q, (pid : Nat), l6e, (a : Int) + (b : Int), []⟩ W) (by kernel_rfl) ?_
        show wpAnyH _ _ _ _ _ 12 (Array.replicate 12 false) _ _
        refine take_one (i := 0) (d := some 92) (v := .pointer (some ⟨c5, 8, none⟩)) rfl rfl rfl (by kernel_rfl) (by kernel_rfl) (by kernel_rfl) (fun _ _ d _ _ h => by cases d <;> exact h) (fun W hS => by kernel_rfl) hS4 ?_
        simp only [Act.put, List.setIfInBounds_toArray, List.set_cons_zero, List.set_cons_succ]
        refine take_one (i := 1) (d := some 93) (v := .pointer (some ⟨c5, 8, none⟩)) rfl rfl rfl (by kernel_rfl) (by kernel_rfl) (by kernel_rfl) (fun _ _ d _ _ h => by cases d <;> exact h) (fun W hS => by kernel_rfl) hS4 ?_
        simp only [Act.put, List.setIfInBounds_toArray, List.set_cons_zero, List.set_cons_succ]
        refine take_one (i := 2) (d := some 94) (v := A6 l6e) rfl rfl rfl (by kernel_rfl) (by kernel_rfl) (by kernel_rfl) (fun _ _ d _ _ h => by cases d <;> exact h) (fun W hS => ex_loadA (.tmp 93) 24 rfl rfl (by obtain ⟨ow, hl, h⟩ := hS; exact (EdAt.of e4k e6k hl h).la6)) hS4 ?_
        simp only [Act.put, List.setIfInBounds_toArray, List.set_cons_zero, List.set_cons_succ]
        refine take_one (i := 3) (d := some 95) (v := .int .u64 (x4 : Nat)) rfl rfl rfl (by kernel_rfl) (by kernel_rfl) (by kernel_rfl) (fun _ _ d _ _ h => by cases d <;> exact h) (fun W hS => by kernel_rfl) hS4 ?_
        simp only [Act.put, List.setIfInBounds_toArray, List.set_cons_zero, List.set_cons_succ]
        refine take_one (i := 5) (d := some 97) (v := .pointer (some ⟨c5, 5, none⟩)) rfl rfl rfl (by kernel_rfl) (by kernel_rfl) (by kernel_rfl) (fun _ _ d _ _ h => by cases d <;> exact h) (fun W hS => by kernel_rfl) hS4 ?_
        simp only [Act.put, List.setIfInBounds_toArray, List.set_cons_zero, List.set_cons_succ]
        refine take_one (i := 6) (d := some 98) (v := .pointer (some ⟨c5, 7, none⟩)) rfl rfl rfl (by kernel_rfl) (by kernel_rfl) (by kernel_rfl) (fun _ _ d _ _ h => by cases d <;> exact h) (fun W hS => by kernel_rfl) hS4 ?_
        simp only [Act.put, List.setIfInBounds_toArray, List.set_cons_zero, List.set_cons_succ]
        refine take_one (i := 7) (d := some 99) (v := .int .u16 (pid : Nat)) rfl rfl rfl (by kernel_rfl) (by kernel_rfl) (by kernel_rfl) (fun _ _ d _ _ h => by cases d <;> exact h) (fun W hS => ex_load16C 98 rfl rfl (by obtain ⟨ow, hl, h⟩ := hS; exact (EdAt.of e4k e6k hl h).c7)) hS4 ?_
        simp only [Act.put, List.setIfInBounds_toArray, List.set_cons_zero, List.set_cons_succ]
        refine take_one (i := 8) (d := some 100) (v := .int .u64 (pid : Nat)) rfl rfl rfl (by kernel_rfl) (by kernel_rfl) (by kernel_rfl) (fun _ _ d _ _ h => by cases d <;> exact h) (fun W hS => ex_cvU 99 rfl rfl (by omega)) hS4 ?_
        simp only [Act.put, List.setIfInBounds_toArray, List.set_cons_zero, List.set_cons_succ]
        refine all_one (i := 4) (by kernel_rfl) rfl rfl ?_
        refine wp_call (d := some 96) 103 _ rfl (by kernel_rfl) (callR (HW1.out _)) ?_
        rintro _ X5 ⟨rfl, g5⟩
        have hS5 := EdO.on hS4 g5
        have hA5 := HasAll.on hA4 g5
        have hb5 := blk_on hb4 g5
        have hB5 := hB4.trans (g5.mono hB4.size)
        refine ⟨hS5, ?_⟩
        simp only [Act.put, List.setIfInBounds_toArray, List.set_cons_zero, List.set_cons_succ]
        refine all_one (i := 9) (by kernel_rfl) rfl rfl ?_
        refine wp_call (d := some 101) 103 _ rfl (by kernel_rfl) (callR (HW2.out _)) ?_
        rintro _ X7 ⟨rfl, g7⟩
        have hS7 := EdO.on hS5 g7
        have hA7 := HasAll.on hA5 g7
        have hb7 := blk_on hb5 g7
        have hB7 := hB5.trans (g7.mono hB5.size)
        refine ⟨hS7, ?_⟩
        simp only [Act.put, List.setIfInBounds_toArray, List.set_cons_zero, List.set_cons_succ]
        refine take_one (i := 10) (d := some 102) (v := .pointer (some ⟨c5, 25, none⟩)) rfl rfl rfl (by kernel_rfl) (by kernel_rfl) (by kernel_rfl) (fun _ _ d _ _ h => by cases d <;> exact h) (fun W hS => by kernel_rfl) hS7 ?_
        simp only [Act.put, List.setIfInBounds_toArray, List.set_cons_zero, List.set_cons_succ]
        obtain ⟨X8, hst8, hb8, hon8⟩ := box_part Tryz.sizeOf24 hb7 (b8 lwe) (by rw [b8_length, ewk]) (o := 25) (by rw [edC_length e4k e6k rfl]; omega) (b8_one _)
        rw [ed_own e4k e6k rfl lwe] at hb8
        have hA8 := HasAll.only hA7 hon8 HNE.out
        have hB8 := hB7.trans (hon8.below (by omega))
        refine all_one (i := 11) (by kernel_rfl) rfl rfl ?_
        refine wp_storeA (.tmp 102) (.tmp 101) 24 rfl rfl rfl rfl hst8 ⟨(⟨lwe, ewk, hb8⟩ : EdO _ _ _), ?_⟩
        refine wpAnyH_done (by kernel_rfl) ?_ _
        obtain ⟨fin, hfin⟩ : ∃ fin, fin = edC ⟨l4e, (d : Int) + (h : Int), oo, q, (pid : Nat), l6e, (a : Int) + (b : Int), lwe⟩ := ⟨_, rfl⟩
        have hb8' : X8.heap[c5]? = some (.cells fin.toArray 69) := by rw [hfin]; exact hb8
        have hflen : fin.length = 41 := by rw [hfin]; exact edC_length e4k e6k ewk
        have hfone : ∀ x ∈ fin, x.oneCell' = true := by rw [hfin]; exact edC_one _
        have HLE : Hid _ := agg_load (t := 69) Tryz.isAgg69 Tryz.sizeOf69 hflen (CellsAt.of_blk hb8')
        have hbR : X8.heap[w.heap.size + 1]? = some (.cells zeroEL.toArray 69) := hA8 _ (.tail _ (.head _))
        obtain ⟨wE, hstE, bE, honE⟩ := box_store Tryz.sizeOf69 hbR rfl fin hflen hfone
        have HLV : Hid _ := agg_loadVar (t := 69) Tryz.isAgg69 Tryz.sizeOf69 hflen (CellsAt.of_blk bE)
        have HSTE : Hid _ := hstE
        have HBE : Hid (Below w.heap.size w wE) := hB8.trans (honE.below (by omega))
        have HFIN : Hid _ := hfin
        clear hstE bE honE hbR hA4 hb4 hB4 hS4 hA5 hS5 hb5 hB5 hA7 hS7 hb7 hB7 hA8 hb8 hb8' hB8 hst8 hon8 g5 g7 hfin hflen hfone
        go_wp2_with first
          | ((with_reducible show wpList _ _ _ _ _ _); refine armL (.tmp 5) 69 rfl rfl rfl HLE.out ?_)
          | ((with_reducible show wpList _ _ _ _ _ _); refine armS (.tmp 4) (.tmp 103) 69 rfl rfl rfl rfl HSTE.out ?_)
        refine bodyPost_ret (res_cell1 Tryz.results59 rfl HLV.out) rfl ?_
        rw [← HQ.out]
        exact ⟨by rw [HFIN.out], HBE.out⟩


end Go.Proofs.YtaebknkjhhcneaaGreatDoor
