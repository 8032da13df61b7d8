/-
  The document's Pseudo.
  The document's WriteUDP.
  Bytes that are read from the front: run, wordOf, word, long of package segment; readUDP.
-/
import Derived.Test.YtpgnnplpcalbbaaGreatFold19
set_option linter.unusedVariables false
set_option linter.unusedSimpArgs false
namespace Go.Proofs.YtpgnnplpcalbbaaGreat
open Go Go.RowKit Go.Shelf
/-- Two addresses as the document's functions take them: slices of so many bytes, of which Pseudo makes the pseudo header. -/
structure EndV (w : World) (sv dv : Value) (N : Nat) (ph : Int → Int → List Int) : Prop where
  sval : ∃ a c, sv = .slice a N c
  dval : ∃ a c, dv = .slice a N c
  even : ∀ p n, (ph p n).length ≤ 40 ∧ (ph p n).length % 2 = 0
  tells : ∀ W, Below w.heap.size w W → ∀ p n : Int, 0 ≤ p ∧ p < 256 → 0 ≤ n ∧ n ≤ 65535 → Calls Tryz.prog 51 #[sv, dv, .int .u8 p, .int .i64 n] W fun e w' => ∃ u, e = .returned u ∧ (BytesAt w'.heap.size w' u (ph p n) ∧ Below W.heap.size W w')
theorem EndV.later {w W : World} {sv dv : Value} {N : Nat} {ph : Int → Int → List Int} (h : EndV w sv dv N ph) (hb : Below w.heap.size w W) : EndV W sv dv N ph :=
  ⟨h.sval, h.dval, h.even, fun X hX => h.tells X (hb.trans (hX.mono hb.size))⟩
def z4 : List Int := List.replicate 4 0
theorem z4_lit : (u8L z4).toArray = #[.int .u8 0, .int .u8 0, .int .u8 0, .int .u8 0] := rfl
set_option maxHeartbeats 2000000 in
set_option maxRecDepth 100000 in
theorem Pseudo4_calls (sv dv : Value) (A B : List Int) (hA : A.length = 4) (hB : B.length = 4) (w : World) (ha : BytesAt w.heap.size w sv A) (hb : BytesAt w.heap.size w dv B) (p n : Int) (hp : 0 ≤ p ∧ p < 256) (hn : 0 ≤ n ∧ n ≤ 65535) :
    Calls Tryz.prog 51 #[sv, dv, .int .u8 p, .int .i64 n] w fun e w' => ∃ u, e = .returned u ∧ (BytesAt w'.heap.size w' u (ph4 A B p n) ∧ Below w.heap.size w w') := by
  have fa := ha.fit
  have fb := hb.fit
  obtain ⟨W0, hW0⟩ : ∃ W0, (w.alloc (.cells (u8L z4).toArray 23)).alloc (.cells (u8L z4).toArray 23) = W0 := ⟨_, rfl⟩
  have b0 := blk_alloc (blk_new w (.cells (u8L z4).toArray 23)) (.cells (u8L z4).toArray 23)
  have b1 := blk_new (w.alloc (.cells (u8L z4).toArray 23)) (.cells (u8L z4).toArray 23)
  have hBl : Below w.heap.size w ((w.alloc (.cells (u8L z4).toArray 23)).alloc (.cells (u8L z4).toArray 23)) := ((Below.refl _ w).alloc (Nat.le_refl _) _).alloc (by simp) _
  have s1 : (w.alloc (.cells (u8L z4).toArray 23)).heap.size = w.heap.size + 1 := by simp
  rw [hW0] at b0 b1 hBl
  rw [s1] at b1
  have g0 := OwnG.of_u8L b0
  have g1 := OwnG.of_u8L b1
  have ha0 := ha.later hBl
  have hcp := g0.copy ha0 0 4 4 (by simp [z4]) (by omega) 3
  have eL : z4.take 0 ++ A ++ z4.drop (0 + A.length) = A := by simp [z4, hA]
  rw [eL] at hcp
  obtain ⟨r1, w1, hr1, hg1, ho1⟩ := hcp
  have hbl1 : Below w.heap.size w w1 := hBl.trans (ho1.below (Nat.le_refl _))
  have g1' := g1.off ho1 (by omega)
  have hcp2 := g1'.copy (hb.later hbl1) 0 4 4 (by simp [z4]) (by omega) 3
  have eL2 : z4.take 0 ++ B ++ z4.drop (0 + B.length) = B := by simp [z4, hB]
  rw [eL2] at hcp2
  obtain ⟨r2, w2, hr2, hg2, ho2⟩ := hcp2
  have hbl2 : Below w.heap.size w w2 := hbl1.trans (ho2.below (by omega))
  have hg1' := hg1.off ho2 (by omega)
  have HA : Hid _ := agg_load (t := 23) Tryz.isAgg23 Tryz.sizeOf23 (by simp [u8L, hA]) hg1'.cellsAt
  have HB : Hid _ := agg_load (t := 23) Tryz.isAgg23 Tryz.sizeOf23 (by simp [u8L, hB]) hg2.cellsAt
  have HP : Hid _ := pseudo4_list_ref A B hA hB fa fb p n hp hn w2
  have HR1 : Hid _ := hr1
  have HR2 : Hid _ := hr2
  have HBL : Hid _ := hbl2
  obtain ⟨asv, csv, rfl, _⟩ := ha.val
  obtain ⟨adv, cdv, rfl, _⟩ := hb.val
  simp only [hA, hB] at HR1 HR2 ⊢
  have hAl : (u8L A).length = 4 := by simp [u8L, hA]
  have hBl' : (u8L B).length = 4 := by simp [u8L, hB]
  rw [z4_lit] at hW0
  clear hr1 hr2 hbl1 hbl2 hg1 hg1' hg2 g0 g1 g1' ha0 eL eL2 ho1 ho2 ha hb b0 b1 s1 hBl fa fb
  generalize u8L A = xA at *
  generalize u8L B = xB at *
  go_enter Tryz.func51, Tryz.ntmps51
  go_wp2_with first
    | ((with_reducible show wpList _ _ _ _ _ _); refine arm_copy rfl (.tmp 20) (.tmp 21) _ _ rfl rfl rfl ⟨_, _, HR1.out, rfl⟩ ?_; rintro v5 w5 rfl)
    | ((with_reducible show wpList _ _ _ _ _ _); refine arm_copy rfl (.tmp 23) (.tmp 24) _ _ rfl rfl rfl ⟨_, _, HR2.out, rfl⟩ ?_; rintro v6 w6 rfl)
    | ((with_reducible show wpList _ _ _ _ _ _); refine arm_load rfl (.tmp 9) 23 rfl rfl HA.out ?_)
    | ((with_reducible show wpList _ _ _ _ _ _); refine arm_load rfl (.tmp 10) 23 rfl rfl HB.out ?_)
  refine Calls.mono HP.out ?_
  rintro _ w7 ⟨u, rfl, hu, hb7⟩
  have HU : Hid _ := hu
  have H7 : Hid _ := HBL.out.trans (hb7.mono HBL.out.size)
  clear hu hb7
  go_wp2
  go_ret
  exact ⟨_, rfl, HU.out, H7.out⟩
theorem EndV.of4 {w : World} {sv dv : Value} {A B : List Int} (ha : BytesAt w.heap.size w sv A) (hb : BytesAt w.heap.size w dv B) (hA : A.length = 4) (hB : B.length = 4) : EndV w sv dv 4 (ph4 A B) := by
  refine ⟨?_, ?_, fun p n => by simp [ph4, hA, hB], fun W hW p n hp hn => Pseudo4_calls sv dv A B hA hB W (ha.later hW) (hb.later hW) p n hp hn⟩
  · obtain ⟨a, c, rfl, _⟩ := ha.val
    exact ⟨a, c, by rw [hA]⟩
  · obtain ⟨a, c, rfl, _⟩ := hb.val
    exact ⟨a, c, by rw [hB]⟩
def z16 : List Int := List.replicate 16 0
theorem z16_lit : (u8L z16).toArray = #[.int .u8 0, .int .u8 0, .int .u8 0, .int .u8 0, .int .u8 0, .int .u8 0, .int .u8 0, .int .u8 0, .int .u8 0, .int .u8 0, .int .u8 0, .int .u8 0, .int .u8 0, .int .u8 0, .int .u8 0, .int .u8 0] := rfl
set_option maxHeartbeats 2000000 in
set_option maxRecDepth 100000 in
theorem Pseudo6_calls (sv dv : Value) (A B : List Int) (hA : A.length = 16) (hB : B.length = 16) (w : World) (ha : BytesAt w.heap.size w sv A) (hb : BytesAt w.heap.size w dv B) (p n : Int) (hp : 0 ≤ p ∧ p < 256) (hn : 0 ≤ n ∧ n ≤ 65535) :
    Calls Tryz.prog 51 #[sv, dv, .int .u8 p, .int .i64 n] w fun e w' => ∃ u, e = .returned u ∧ (BytesAt w'.heap.size w' u (ph6 A B p n) ∧ Below w.heap.size w w') := by
  have fa := ha.fit
  have fb := hb.fit
  obtain ⟨W0, hW0⟩ : ∃ W0, (w.alloc (.cells (u8L z16).toArray 28)).alloc (.cells (u8L z16).toArray 28) = W0 := ⟨_, rfl⟩
  have b0 := blk_alloc (blk_new w (.cells (u8L z16).toArray 28)) (.cells (u8L z16).toArray 28)
  have b1 := blk_new (w.alloc (.cells (u8L z16).toArray 28)) (.cells (u8L z16).toArray 28)
  have hBl : Below w.heap.size w ((w.alloc (.cells (u8L z16).toArray 28)).alloc (.cells (u8L z16).toArray 28)) := ((Below.refl _ w).alloc (Nat.le_refl _) _).alloc (by simp) _
  have s1 : (w.alloc (.cells (u8L z16).toArray 28)).heap.size = w.heap.size + 1 := by simp
  rw [hW0] at b0 b1 hBl
  rw [s1] at b1
  have g0 := OwnG.of_u8L b0
  have g1 := OwnG.of_u8L b1
  have ha0 := ha.later hBl
  have hcp := g0.copy ha0 0 16 16 (by simp [z16]) (by omega) 3
  have eL : z16.take 0 ++ A ++ z16.drop (0 + A.length) = A := by simp [z16, hA]
  rw [eL] at hcp
  obtain ⟨r1, w1, hr1, hg1, ho1⟩ := hcp
  have hbl1 : Below w.heap.size w w1 := hBl.trans (ho1.below (Nat.le_refl _))
  have g1' := g1.off ho1 (by omega)
  have hcp2 := g1'.copy (hb.later hbl1) 0 16 16 (by simp [z16]) (by omega) 3
  have eL2 : z16.take 0 ++ B ++ z16.drop (0 + B.length) = B := by simp [z16, hB]
  rw [eL2] at hcp2
  obtain ⟨r2, w2, hr2, hg2, ho2⟩ := hcp2
  have hbl2 : Below w.heap.size w w2 := hbl1.trans (ho2.below (by omega))
  have hg1' := hg1.off ho2 (by omega)
  have HA : Hid _ := agg_load (t := 28) Tryz.isAgg28 Tryz.sizeOf28 (by simp [u8L, hA]) hg1'.cellsAt
  have HB : Hid _ := agg_load (t := 28) Tryz.isAgg28 Tryz.sizeOf28 (by simp [u8L, hB]) hg2.cellsAt
  have HP : Hid _ := pseudo6_list_ref A B hA hB fa fb p n hp hn w2
  have HR1 : Hid _ := hr1
  have HR2 : Hid _ := hr2
  have HBL : Hid _ := hbl2
  obtain ⟨asv, csv, rfl, _⟩ := ha.val
  obtain ⟨adv, cdv, rfl, _⟩ := hb.val
  simp only [hA, hB] at HR1 HR2 ⊢
  have hAl : (u8L A).length = 16 := by simp [u8L, hA]
  have hBl' : (u8L B).length = 16 := by simp [u8L, hB]
  rw [z16_lit] at hW0
  clear hr1 hr2 hbl1 hbl2 hg1 hg1' hg2 g0 g1 g1' ha0 eL eL2 ho1 ho2 ha hb b0 b1 s1 hBl fa fb
  generalize u8L A = xA at *
  generalize u8L B = xB at *
  go_enter Tryz.func51, Tryz.ntmps51
  go_wp2_with first
    | ((with_reducible show wpList _ _ _ _ _ _); refine arm_copy rfl (.tmp 35) (.tmp 36) _ _ rfl rfl rfl ⟨_, _, HR1.out, rfl⟩ ?_; rintro v5 w5 rfl)
    | ((with_reducible show wpList _ _ _ _ _ _); refine arm_copy rfl (.tmp 38) (.tmp 39) _ _ rfl rfl rfl ⟨_, _, HR2.out, rfl⟩ ?_; rintro v6 w6 rfl)
    | ((with_reducible show wpList _ _ _ _ _ _); refine arm_load rfl (.tmp 13) 28 rfl rfl HA.out ?_)
    | ((with_reducible show wpList _ _ _ _ _ _); refine arm_load rfl (.tmp 14) 28 rfl rfl HB.out ?_)
  refine Calls.mono HP.out ?_
  rintro _ w7 ⟨u, rfl, hu, hb7⟩
  have HU : Hid _ := hu
  have H7 : Hid _ := HBL.out.trans (hb7.mono HBL.out.size)
  clear hu hb7
  go_wp2
  go_ret
  exact ⟨_, rfl, HU.out, H7.out⟩
theorem EndV.of6 {w : World} {sv dv : Value} {A B : List Int} (ha : BytesAt w.heap.size w sv A) (hb : BytesAt w.heap.size w dv B) (hA : A.length = 16) (hB : B.length = 16) : EndV w sv dv 16 (ph6 A B) := by
  refine ⟨?_, ?_, fun p n => by simp [ph6, hA, hB], fun W hW p n hp hn => Pseudo6_calls sv dv A B hA hB W (ha.later hW) (hb.later hW) p n hp hn⟩
  · obtain ⟨a, c, rfl, _⟩ := ha.val
    exact ⟨a, c, by rw [hA]⟩
  · obtain ⟨a, c, rfl, _⟩ := hb.val
    exact ⟨a, c, by rw [hB]⟩
end Go.Proofs.YtpgnnplpcalbbaaGreat
namespace Go.Proofs.YtpgnnplpcalbbaaGreat
open Go Go.RowKit Go.Shelf
theorem ex_fieldU {o : Oper} {a : Act} {W : World} (k : Nat) (i : Nat) {b : Nat} (hop : o.op = Op.fieldAddr 140 (.tmp k) i) (hk : a.eval (.tmp k) = .pointer (some ⟨b, 0, none⟩)) (hi : i = 0 ∨ i = 1 ∨ i = 2) :
    (execOp a.eval o).run Tryz.prog W = .ok (.value (.pointer (some ⟨b, i, none⟩))) W := by
  generalize a.eval = ev at *
  rcases hi with rfl | rfl | rfl <;> simp [execOp, hop, hk, go_sem]
theorem ex_load16 {o : Oper} {a : Act} {W : World} (k : Nat) {p : Addr} {x : Int} (hop : o.op = Op.load 22 (.tmp k)) (hk : a.eval (.tmp k) = .pointer (some p)) (hc : W.cell? p = some (.int .u16 x)) :
    (execOp a.eval o).run Tryz.prog W = .ok (.value (.int .u16 x)) W := by
  generalize a.eval = ev at *
  simp [execOp, hop, hk, hc, go_sem]
theorem ex_u64 {o : Oper} {a : Act} {W : World} (p : Operand) {k : IntKind} {x : Int} {t : TypeId} (hop : o.op = Op.convert t 210 p) (ht : (t = 22 ∧ k = .u16) ∨ (t = 33 ∧ k = .u32) ∨ (t = 3 ∧ k = .i64)) (hp : a.eval p = .int k x) (hx : 0 ≤ x ∧ x ≤ 4294967295) :
    (execOp a.eval o).run Tryz.prog W = .ok (.value (.int .u64 x)) W := by
  have e : IntKind.u64.wrap x = x := by rw [IntKind.wrap_u64]; omega
  generalize a.eval = ev at *
  rcases ht with ⟨rfl, rfl⟩ | ⟨rfl, rfl⟩ | ⟨rfl, rfl⟩ <;> simp [execOp, hop, hp, go_sem, e]
theorem ex_move {P : Program} {o : Oper} {a : Act} {W : World} (p : Operand) (hop : o.op = Op.move p) {v : Value} (hp : a.eval p = v) : (execOp a.eval o).run P W = .ok (.value v) W := by
  generalize a.eval = ev at *
  simp [execOp, hop, hp, go_sem]
theorem wp_lit00 {o : Oper} {a : Act} {d : Option Nat} {w : World} {K : Act → World → Prop} {Q : Exit → Act → World → Prop} (hop : o.op = Op.buildSlice 25 2 #[(0, .const (.int .u8 0)), (1, .const (.int .u8 0))]) (hd : o.dst = d) (hK : K (a.put d (.slice (some ⟨w.heap.size, 0, none⟩) 2 2)) (w.alloc (.cells #[.int .u8 0, .int .u8 0] 5))) : o.wp Tryz.prog a w K Q := by
  subst hd
  unfold Oper.wp
  simp [execOp, hop, go_sem]
  exact hK
theorem wp_parts4 {o : Oper} {a : Act} {d : Option Nat} {w : World} {K : Act → World → Prop} {Q : Exit → Act → World → Prop} (p0 p1 p2 p3 : Operand) (hop : o.op = Op.buildSlice 127 4 #[(0, p0), (1, p1), (2, p2), (3, p3)]) (hd : o.dst = d) {v0 v1 v2 v3 : Value} (h0 : a.eval p0 = v0) (h1 : a.eval p1 = v1) (h2 : a.eval p2 = v2) (h3 : a.eval p3 = v3)
    (s0 : ∃ x n m, v0 = .slice x n m) (s1 : ∃ x n m, v1 = .slice x n m) (s2 : ∃ x n m, v2 = .slice x n m) (s3 : ∃ x n m, v3 = .slice x n m)
    (hK : K (a.put d (.slice (some ⟨w.heap.size, 0, none⟩) 4 4)) (w.alloc (.cells #[v0, v1, v2, v3] 25))) : o.wp Tryz.prog a w K Q := by
  obtain ⟨x0, n0, m0, rfl⟩ := s0
  obtain ⟨x1, n1, m1, rfl⟩ := s1
  obtain ⟨x2, n2, m2, rfl⟩ := s2
  obtain ⟨x3, n3, m3, rfl⟩ := s3
  subst hd
  unfold Oper.wp
  generalize hev : a.eval = ev at *
  simp [execOp, hop, h0, h1, h2, h3, go_sem]
  exact hK
theorem BytesAt.slc {n : Nat} {W : World} {v : Value} {zs : List Int} (h : BytesAt n W v zs) : ∃ x n m, v = .slice x n m := by
  obtain ⟨x, m, e, _⟩ := h.val
  exact ⟨x, _, m, e⟩
set_option maxHeartbeats 2000000 in
set_option maxRecDepth 100000 in
theorem RWriteUDP_long (sv dv : Value) (N : Nat) (ph : Int → Int → List Int) (c : List Value) (src dst : Int) (data : List Int) (w : World) (he : EndV w sv dv N ph) (hu : UdpC w c src dst data) (hn : 65535 < 8 + data.length) :
    Calls Tryz.prog 103 #[sv, dv, .agg c.toArray] w fun e w' => e = .returned (.tuple #[.slice none 0 0, .int .i64 2]) ∧ Below w.heap.size w w' := by
  obtain ⟨⟨vd, rfl, hd⟩, fs, fd⟩ := hu
  obtain ⟨sa, cs, rfl⟩ := he.sval
  obtain ⟨ad, cd, rfl⟩ := he.dval
  have hB0 := (Below.refl w.heap.size w).alloc (Nat.le_refl _) (.cells [.int .u16 src, .int .u16 dst, vd].toArray 140)
  have HB0 : Hid _ := hB0
  have hld := hd.len
  obtain ⟨av, kv, rfl, _⟩ := hd.val
  have q : decide ((65527 : Int) < (data.length : Int)) = true := by simp; omega
  clear hd hB0 he
  go_enter Tryz.func103, Tryz.ntmps103
  go_wp2
  go_ret2
  exact ⟨rfl, HB0.out⟩
/-- A region that draws, by what it leaves. -/
theorem region_mid {P : Program} {id : Nat} {ops : Array Oper} {Q : Exit → Act → World → Prop} {a : Act} {w : World} (M : Act → Act → World → Prop) (h : (Code.region id ops true).wp P (fun e a' w' => e = .normal ∧ M a a' w') a w) (hM : ∀ a' w', M a a' w' → Q .normal a' w') : (Code.region id ops true).wp P Q a w :=
  wp_mono h (fun e a' w' ⟨he, hm⟩ => he ▸ hM a' w' hm)
def rudpL (ph : Int → Int → List Int) (src dst : Int) (data : List Int) : List Int :=
  w2 src ++ w2 dst ++ w2 (8 + (data.length : Int)) ++ w2 (nz (65535 - sumW 0 (wordsL (ph 17 (8 + (data.length : Int)) ++ (w2 src ++ w2 dst ++ w2 (8 + (data.length : Int)) ++ ([0, 0] ++ data)))))) ++ data
set_option maxHeartbeats 4000000 in
set_option maxRecDepth 100000 in
theorem RWriteUDP_ok (sv dv : Value) (N : Nat) (ph : Int → Int → List Int) (c : List Value) (src dst : Int) (data : List Int) (w : World) (he : EndV w sv dv N ph) (hph : ∀ p n : Int, 0 ≤ p ∧ p < 256 → 0 ≤ n ∧ n ≤ 65535 → Fit (ph p n)) (hu : UdpC w c src dst data) (hn : 8 + data.length ≤ 65535) :
    Calls Tryz.prog 103 #[sv, dv, .agg c.toArray] w fun e w' => ∃ v, e = .returned (.tuple #[v, .int .i64 0]) ∧ OB w.heap.size w w' v (rudpL ph src dst data) := by
  obtain ⟨⟨vd, rfl, hd⟩, fs, fd⟩ := hu
  obtain ⟨sa, cs, rfl⟩ := he.sval
  obtain ⟨ad, cd, rfl⟩ := he.dval
  have hb0 := blk_new w (.cells [.int .u16 src, .int .u16 dst, vd].toArray 140)
  have hB0 := (Below.refl w.heap.size w).alloc (Nat.le_refl _) (.cells [.int .u16 src, .int .u16 dst, vd].toArray 140)
  obtain ⟨W0, hW0⟩ : ∃ W0, w.alloc (.cells [.int .u16 src, .int .u16 dst, vd].toArray 140) = W0 := ⟨_, rfl⟩
  rw [hW0] at hb0 hB0
  have K0 : Hid (∀ W, Below W0.heap.size W0 W → W.cell? ⟨w.heap.size, 0, none⟩ = some (.int .u16 src)) := fun W hW => blk_cell (j := 0) (blk_on hb0 hW) rfl
  have K1 : Hid (∀ W, Below W0.heap.size W0 W → W.cell? ⟨w.heap.size, 1, none⟩ = some (.int .u16 dst)) := fun W hW => blk_cell (j := 1) (blk_on hb0 hW) rfl
  have K2 : Hid (∀ W, Below W0.heap.size W0 W → W.cell? ⟨w.heap.size, 2, none⟩ = some vd) := fun W hW => blk_cell (j := 2) (blk_on hb0 hW) rfl
  have k2 := K2.out W0 (Below.refl _ _)
  have hld := hd.len
  have q : decide ((65527 : Int) < (data.length : Int)) = false := by simp; omega
  have HD : Hid (∀ W, Below W0.heap.size W0 W → BytesAt W.heap.size W vd data) := fun W hW => hd.later (hB0.trans (hW.mono hB0.size))
  have HPS : Hid (∀ W, Below W0.heap.size W0 W → Calls Tryz.prog 51 #[.slice sa N cs, .slice ad N cd, .int .u8 17, .int .i64 (8 + (data.length : Int))] W fun e w' => ∃ u, e = .returned u ∧ (BytesAt w'.heap.size w' u (ph 17 (8 + (data.length : Int))) ∧ Below W.heap.size W w')) := fun W hW => he.tells W (hB0.trans (hW.mono hB0.size)) 17 _ (by decide) (by omega)
  have HEV : Hid _ := he.even
  have HFD : Hid (Fit data) := hd.fit
  have HPF : Hid _ := hph
  have hvd : ∃ x n m, vd = .slice x n m := by obtain ⟨x, m, e, _⟩ := hd.val; exact ⟨x, _, m, e⟩
  have HB0 : Hid _ := hB0
  obtain ⟨av, kv, rfl, _⟩ := hd.val
  clear hd hB0 he hb0 hph
  go_enter Tryz.func103, Tryz.ntmps103
  go_wp2_with fail
  refine wp_region_held (S := fun W => Below W0.heap.size W0 W) (by kernel_rfl) ?_
  show wpAnyH _ _ _ _ _ 12 (Array.replicate 12 false) _ W0.drew
  have hS0 : Below W0.heap.size W0 W0.drew := (Below.refl _ _).drew
  refine take_one (i := 0) (d := some 19) (v := .pointer (some ⟨w.heap.size, 0, none⟩)) rfl rfl rfl (by kernel_rfl) (by kernel_rfl) (by kernel_rfl) (fun _ _ d _ _ h => by cases d <;> exact h) (fun W hS => ex_fieldU 5 0 rfl rfl (.inl rfl)) hS0 ?_
  simp only [Act.put, List.setIfInBounds_toArray, List.set_cons_zero, List.set_cons_succ]
  refine take_one (i := 1) (d := some 20) (v := .int .u16 src) rfl rfl rfl (by kernel_rfl) (by kernel_rfl) (by kernel_rfl) (fun _ _ d _ _ h => by cases d <;> exact h) (fun W hS => ex_load16 19 rfl rfl (K0.out W hS)) hS0 ?_
  simp only [Act.put, List.setIfInBounds_toArray, List.set_cons_zero, List.set_cons_succ]
  refine take_one (i := 2) (d := some 21) (v := .int .u64 src) rfl rfl rfl (by kernel_rfl) (by kernel_rfl) (by kernel_rfl) (fun _ _ d _ _ h => by cases d <;> exact h) (fun W hS => ex_u64 (.tmp 20) (k := .u16) rfl (.inl ⟨rfl, rfl⟩) rfl (by omega)) hS0 ?_
  simp only [Act.put, List.setIfInBounds_toArray, List.set_cons_zero, List.set_cons_succ]
  refine take_one (i := 4) (d := some 23) (v := .pointer (some ⟨w.heap.size, 1, none⟩)) rfl rfl rfl (by kernel_rfl) (by kernel_rfl) (by kernel_rfl) (fun _ _ d _ _ h => by cases d <;> exact h) (fun W hS => ex_fieldU 5 1 rfl rfl (.inr (.inl rfl))) hS0 ?_
  simp only [Act.put, List.setIfInBounds_toArray, List.set_cons_zero, List.set_cons_succ]
  refine take_one (i := 5) (d := some 24) (v := .int .u16 dst) rfl rfl rfl (by kernel_rfl) (by kernel_rfl) (by kernel_rfl) (fun _ _ d _ _ h => by cases d <;> exact h) (fun W hS => ex_load16 23 rfl rfl (K1.out W hS)) hS0 ?_
  simp only [Act.put, List.setIfInBounds_toArray, List.set_cons_zero, List.set_cons_succ]
  refine take_one (i := 6) (d := some 25) (v := .int .u64 dst) rfl rfl rfl (by kernel_rfl) (by kernel_rfl) (by kernel_rfl) (fun _ _ d _ _ h => by cases d <;> exact h) (fun W hS => ex_u64 (.tmp 24) (k := .u16) rfl (.inl ⟨rfl, rfl⟩) rfl (by omega)) hS0 ?_
  simp only [Act.put, List.setIfInBounds_toArray, List.set_cons_zero, List.set_cons_succ]
  refine take_one (i := 8) (d := some 27) (v := .int .i64 (8 + (data.length : Int))) rfl rfl rfl (by kernel_rfl) (by kernel_rfl) (by kernel_rfl) (fun _ _ d _ _ h => by cases d <;> exact h) (fun W hS => ex_move (.tmp 8) rfl rfl) hS0 ?_
  simp only [Act.put, List.setIfInBounds_toArray, List.set_cons_zero, List.set_cons_succ]
  refine take_one (i := 9) (d := some 28) (v := .int .u64 (8 + (data.length : Int))) rfl rfl rfl (by kernel_rfl) (by kernel_rfl) (by kernel_rfl) (fun _ _ d _ _ h => by cases d <;> exact h) (fun W hS => ex_u64 (.tmp 27) (k := .i64) rfl (.inr (.inr ⟨rfl, rfl⟩)) rfl (by omega)) hS0 ?_
  simp only [Act.put, List.setIfInBounds_toArray, List.set_cons_zero, List.set_cons_succ]
  have o0 : OB W0.heap.size W0 W0.drew (.slice none 0 0) [] := ⟨World.ownsRow_nil _ _ _ _, hS0⟩
  refine all_one (i := 3) (by kernel_rfl) rfl rfl ?_
  refine wp_call (d := some 22) 176 _ rfl (by kernel_rfl) (put_calls o0 (Nat.le_refl _) src (by omega) 2 (by decide) (by simp)) ?_
  rintro v1 w1 ⟨o1, s1, st1⟩
  refine ⟨o1.bel, ?_⟩
  rw [List.nil_append, putB_two fs] at o1
  simp only [Act.put, List.setIfInBounds_toArray, List.set_cons_zero, List.set_cons_succ]
  refine all_one (i := 7) (by kernel_rfl) rfl rfl ?_
  refine wp_call (d := some 26) 176 _ rfl (by kernel_rfl) (put_calls o1 s1 dst (by omega) 2 (by decide) (by simp [w2])) ?_
  rintro v2 w2_ ⟨o2, s2, st2⟩
  refine ⟨o2.bel, ?_⟩
  rw [putB_two fd] at o2
  simp only [Act.put, List.setIfInBounds_toArray, List.set_cons_zero, List.set_cons_succ]
  refine all_one (i := 10) (by kernel_rfl) rfl rfl ?_
  refine wp_call (d := some 29) 176 _ rfl (by kernel_rfl) (put_calls o2 s2 (8 + (data.length : Int)) (by omega) 2 (by decide) (by simp [w2])) ?_
  rintro v3 w3 ⟨o3, s3, st3⟩
  refine ⟨o3.bel, ?_⟩
  rw [putB_two (by omega)] at o3
  simp only [Act.put, List.setIfInBounds_toArray, List.set_cons_zero, List.set_cons_succ]
  refine take_one (i := 11) (d := some 9) (v := v3) rfl rfl rfl (by kernel_rfl) (by kernel_rfl) (by kernel_rfl) (fun _ _ d _ _ h => by cases d <;> exact h) (fun W hS => ex_assign (.tmp 29) rfl rfl) o3.bel ?_
  simp only [Act.put, List.setIfInBounds_toArray, List.set_cons_zero, List.set_cons_succ]
  refine wpAnyH_done (by kernel_rfl) ?_ _
  have HO3 : Hid (OB W0.heap.size W0 w3 v3 (w2 src ++ w2 dst ++ w2 (8 + (data.length : Int)))) := o3
  have hfit3 : Fit (w2 src ++ w2 dst ++ w2 (8 + (data.length : Int))) := ((w2_fit fs).append (w2_fit fd)).append (w2_fit (by omega))
  have hlen3 : (w2 src ++ w2 dst ++ w2 (8 + (data.length : Int))).length = 6 := rfl
  obtain ⟨ab, cb, e3, _⟩ := (own_bytes o3.own hfit3 (by rw [hlen3]; decide)).val
  rw [hlen3] at e3
  subst e3
  have HFIT3 : Hid (Fit (w2 src ++ w2 dst ++ w2 (8 + (data.length : Int)))) := hfit3
  clear o0 o1 o2 o3 st1 st2 st3 s1 s2 hS0 hfit3
  go_wp2_with fail
  refine region_mid (fun a a' w' => ∃ v33 v35 v38, a' = ((((((((((a.put (some 30) (.slice sa N cs)).put (some 31) (.slice ad N cd)).put (some 32) (.int .i64 (8 + (data.length : Int)))).put (some 34) (.slice ab 6 cb)).put (some 36) (.pointer (some ⟨w.heap.size, 2, none⟩))).put (some 37) (.slice av data.length kv)).put (some 33) v33).put (some 35) v35).put (some 38) v38).put (some 39) (.int .u16 (65535 - sumW 0 (wordsL (ph 17 (8 + (data.length : Int)) ++ (w2 src ++ w2 dst ++ w2 (8 + (data.length : Int)) ++ ([0, 0] ++ data))))))).put (some 10) (.int .u16 (65535 - sumW 0 (wordsL (ph 17 (8 + (data.length : Int)) ++ (w2 src ++ w2 dst ++ w2 (8 + (data.length : Int)) ++ ([0, 0] ++ data)))))) ∧ Below w3.heap.size w3 w') ?_ ?_
  · have hS0 : Below w3.heap.size w3 w3.drew := (Below.refl _ _).drew
    have hX : ∀ W, Below w3.heap.size w3 W → Below W0.heap.size W0 W := fun W hW => HO3.out.bel.trans (hW.mono s3)
    refine wp_region_held (S := fun W => Below w3.heap.size w3 W) (by kernel_rfl) ?_
    show wpAnyH _ _ _ _ _ 11 (Array.replicate 11 false) _ w3.drew
    refine take_one (i := 0) (d := some 30) (v := .slice sa N cs) rfl rfl rfl (by kernel_rfl) (by kernel_rfl) (by kernel_rfl) (fun _ _ _ _ _ h => absurd h.1 (by simp)) (fun W hS => ex_move (.tmp 0) rfl rfl) hS0 ?_
    simp only [Act.put, List.setIfInBounds_toArray, List.set_cons_zero, List.set_cons_succ]
    refine take_one (i := 1) (d := some 31) (v := .slice ad N cd) rfl rfl rfl (by kernel_rfl) (by kernel_rfl) (by kernel_rfl) (fun _ _ _ _ _ h => absurd h.1 (by simp)) (fun W hS => ex_move (.tmp 1) rfl rfl) hS0 ?_
    simp only [Act.put, List.setIfInBounds_toArray, List.set_cons_zero, List.set_cons_succ]
    refine take_one (i := 2) (d := some 32) (v := .int .i64 (8 + (data.length : Int))) rfl rfl rfl (by kernel_rfl) (by kernel_rfl) (by kernel_rfl) (fun _ _ _ _ _ h => absurd h.1 (by simp)) (fun W hS => ex_move (.tmp 8) rfl rfl) hS0 ?_
    simp only [Act.put, List.setIfInBounds_toArray, List.set_cons_zero, List.set_cons_succ]
    refine take_one (i := 4) (d := some 34) (v := .slice ab 6 cb) rfl rfl rfl (by kernel_rfl) (by kernel_rfl) (by kernel_rfl) (fun _ _ _ _ _ h => absurd h.1 (by simp)) (fun W hS => ex_move (.tmp 9) rfl rfl) hS0 ?_
    simp only [Act.put, List.setIfInBounds_toArray, List.set_cons_zero, List.set_cons_succ]
    refine take_one (i := 6) (d := some 36) (v := .pointer (some ⟨w.heap.size, 2, none⟩)) rfl rfl rfl (by kernel_rfl) (by kernel_rfl) (by kernel_rfl) (fun _ _ _ _ _ h => absurd h.1 (by simp)) (fun W hS => ex_fieldU 5 2 rfl rfl (.inr (.inr rfl))) hS0 ?_
    simp only [Act.put, List.setIfInBounds_toArray, List.set_cons_zero, List.set_cons_succ]
    refine take_one (i := 7) (d := some 37) (v := .slice av data.length kv) rfl rfl rfl (by kernel_rfl) (by kernel_rfl) (by kernel_rfl) (fun _ _ _ _ _ h => absurd h.1 (by simp)) (fun W hS => ex_load 36 rfl rfl (K2.out W (hX W hS)) ⟨_, _, _, rfl⟩) hS0 ?_
    simp only [Act.put, List.setIfInBounds_toArray, List.set_cons_zero, List.set_cons_succ]
    refine all_two (i1 := 3) (i2 := 5) (by kernel_rfl) rfl rfl rfl rfl ?_ ?_
    · refine wp_call (d := some 33) 51 _ rfl (by kernel_rfl) (HPS.out _ (hX _ hS0)) ?_
      rintro u w4 ⟨hu, hb4⟩
      have hS4 := hS0.trans (hb4.mono (Nat.le_refl _))
      refine ⟨hS4, ?_⟩
      simp only [Act.put, List.setIfInBounds_toArray, List.set_cons_zero, List.set_cons_succ]
      refine all_one (i := 5) (by kernel_rfl) rfl rfl ?_
      refine wp_lit00 (d := some 35) rfl rfl ?_
      have hb5 := (Below.refl w4.heap.size w4).alloc (Nat.le_refl _) (.cells #[.int .u8 0, .int .u8 0] 5)
      have hS5 := hS4.trans (hb5.mono hS4.size)
      have p33 := hu.later hb5
      have p35 := bytes_new w4 5 [0, 0] #[.int .u8 0, .int .u8 0] 2 2 (bytes_lit _ _ rfl) rfl (by simp) (fit_of _ rfl)
      refine ⟨hS5, ?_⟩
      generalize w4.alloc (.cells #[.int .u8 0, .int .u8 0] 5) = w5 at *
      simp only [Act.put, List.setIfInBounds_toArray, List.set_cons_zero, List.set_cons_succ]
      generalize hs35 : Value.slice (some ⟨w4.heap.size, 0, none⟩) 2 2 = s35 at *
      have hX5 := hX _ hS5
      have p34 : BytesAt w5.heap.size w5 (.slice ab 6 cb) (w2 src ++ w2 dst ++ w2 (8 + (data.length : Int))) := (own_bytes HO3.out.own HFIT3.out (by rw [hlen3]; decide)).later hS5
      have hP := parts_four w5 _ _ _ _ 25 _ _ _ _ p33 p34 p35 (HD.out w5 hX5)
      have hBp := (Below.refl w5.heap.size w5).alloc (Nat.le_refl _) (.cells #[u, .slice ab 6 cb, s35, .slice av data.length kv] 25)
      have hfl : [ph 17 (8 + (data.length : Int)), w2 src ++ w2 dst ++ w2 (8 + (data.length : Int)), [0, 0], data].flatten = ph 17 (8 + (data.length : Int)) ++ (w2 src ++ w2 dst ++ w2 (8 + (data.length : Int)) ++ ([0, 0] ++ data)) := by simp
      have hof := ROf_calls _ _ _ _ _ hP (by rw [hfl]; have := (HEV.out 17 (8 + (data.length : Int))).1; simp [w2]; omega)
      rw [hfl] at hof
      refine all_one (i := 8) (by kernel_rfl) rfl rfl ?_
      refine wp_parts4 (d := some 38) (.tmp 33) (.tmp 34) (.tmp 35) (.tmp 37) rfl rfl rfl rfl rfl rfl p33.slc p34.slc p35.slc ⟨_, _, _, rfl⟩ ?_
      have hS6 := hS5.trans (hBp.mono hS5.size)
      refine ⟨hS6, ?_⟩
      simp only [Act.put, List.setIfInBounds_toArray, List.set_cons_zero, List.set_cons_succ]
      refine all_one (i := 9) (by kernel_rfl) rfl rfl ?_
      refine wp_call (d := some 39) 114 _ rfl (by kernel_rfl) (R := fun v w' => v = .int .u16 (65535 - sumW 0 (wordsL (ph 17 (8 + (data.length : Int)) ++ (w2 src ++ w2 dst ++ w2 (8 + (data.length : Int)) ++ ([0, 0] ++ data))))) ∧ Below (w5.alloc (.cells #[u, .slice ab 6 cb, s35, .slice av data.length kv] 25)).heap.size (w5.alloc (.cells #[u, .slice ab 6 cb, s35, .slice av data.length kv] 25)) w') (hof.mono (fun e w' h => ⟨_, h.1, rfl, h.2⟩)) ?_
      rintro v39 w7 ⟨rfl, hb7⟩
      have hS7 := hS6.trans (hb7.mono hS6.size)
      refine ⟨hS7, ?_⟩
      simp only [Act.put, List.setIfInBounds_toArray, List.set_cons_zero, List.set_cons_succ]
      refine take_one (i := 10) (d := some 10) (v := .int .u16 (65535 - sumW 0 (wordsL (ph 17 (8 + (data.length : Int)) ++ (w2 src ++ w2 dst ++ w2 (8 + (data.length : Int)) ++ ([0, 0] ++ data)))))) rfl rfl rfl (by kernel_rfl) (by kernel_rfl) (by kernel_rfl) (fun _ _ _ _ _ h => absurd h.1 (by simp)) (fun W hS => ex_assign (.tmp 39) rfl rfl) hS7 ?_
      simp only [Act.put, List.setIfInBounds_toArray, List.set_cons_zero, List.set_cons_succ]
      refine wpAnyH_done (by kernel_rfl) ?_ _
      refine ⟨rfl, u, s35, .slice (some ⟨w5.heap.size, 0, none⟩) 4 4, ?_, hS7⟩
      simp only [Act.put, List.setIfInBounds_toArray, List.set_cons_zero, List.set_cons_succ]
    · refine wp_lit00 (d := some 35) rfl rfl ?_
      have hb4 := (Below.refl w3.drew.heap.size w3.drew).alloc (Nat.le_refl _) (.cells #[.int .u8 0, .int .u8 0] 5)
      have hS4 := hS0.trans (hb4.mono hS0.size)
      have p35a := bytes_new w3.drew 5 [0, 0] #[.int .u8 0, .int .u8 0] 2 2 (bytes_lit _ _ rfl) rfl (by simp) (fit_of _ rfl)
      refine ⟨hS4, ?_⟩
      generalize w3.drew.alloc (.cells #[.int .u8 0, .int .u8 0] 5) = w4 at *
      simp only [Act.put, List.setIfInBounds_toArray, List.set_cons_zero, List.set_cons_succ]
      generalize hs35 : Value.slice (some ⟨w3.drew.heap.size, 0, none⟩) 2 2 = s35 at *
      refine all_one (i := 3) (by kernel_rfl) rfl rfl ?_
      refine wp_call (d := some 33) 51 _ rfl (by kernel_rfl) (HPS.out _ (hX _ hS4)) ?_
      rintro u w5 ⟨p33, hb5⟩
      have hS5 := hS4.trans (hb5.mono hS4.size)
      have p35 := p35a.later hb5
      refine ⟨hS5, ?_⟩
      simp only [Act.put, List.setIfInBounds_toArray, List.set_cons_zero, List.set_cons_succ]
      have hX5 := hX _ hS5
      have p34 : BytesAt w5.heap.size w5 (.slice ab 6 cb) (w2 src ++ w2 dst ++ w2 (8 + (data.length : Int))) := (own_bytes HO3.out.own HFIT3.out (by rw [hlen3]; decide)).later hS5
      have hP := parts_four w5 _ _ _ _ 25 _ _ _ _ p33 p34 p35 (HD.out w5 hX5)
      have hBp := (Below.refl w5.heap.size w5).alloc (Nat.le_refl _) (.cells #[u, .slice ab 6 cb, s35, .slice av data.length kv] 25)
      have hfl : [ph 17 (8 + (data.length : Int)), w2 src ++ w2 dst ++ w2 (8 + (data.length : Int)), [0, 0], data].flatten = ph 17 (8 + (data.length : Int)) ++ (w2 src ++ w2 dst ++ w2 (8 + (data.length : Int)) ++ ([0, 0] ++ data)) := by simp
      have hof := ROf_calls _ _ _ _ _ hP (by rw [hfl]; have := (HEV.out 17 (8 + (data.length : Int))).1; simp [w2]; omega)
      rw [hfl] at hof
      refine all_one (i := 8) (by kernel_rfl) rfl rfl ?_
      refine wp_parts4 (d := some 38) (.tmp 33) (.tmp 34) (.tmp 35) (.tmp 37) rfl rfl rfl rfl rfl rfl p33.slc p34.slc p35.slc ⟨_, _, _, rfl⟩ ?_
      have hS6 := hS5.trans (hBp.mono hS5.size)
      refine ⟨hS6, ?_⟩
      simp only [Act.put, List.setIfInBounds_toArray, List.set_cons_zero, List.set_cons_succ]
      refine all_one (i := 9) (by kernel_rfl) rfl rfl ?_
      refine wp_call (d := some 39) 114 _ rfl (by kernel_rfl) (R := fun v w' => v = .int .u16 (65535 - sumW 0 (wordsL (ph 17 (8 + (data.length : Int)) ++ (w2 src ++ w2 dst ++ w2 (8 + (data.length : Int)) ++ ([0, 0] ++ data))))) ∧ Below (w5.alloc (.cells #[u, .slice ab 6 cb, s35, .slice av data.length kv] 25)).heap.size (w5.alloc (.cells #[u, .slice ab 6 cb, s35, .slice av data.length kv] 25)) w') (hof.mono (fun e w' h => ⟨_, h.1, rfl, h.2⟩)) ?_
      rintro v39 w7 ⟨rfl, hb7⟩
      have hS7 := hS6.trans (hb7.mono hS6.size)
      refine ⟨hS7, ?_⟩
      simp only [Act.put, List.setIfInBounds_toArray, List.set_cons_zero, List.set_cons_succ]
      refine take_one (i := 10) (d := some 10) (v := .int .u16 (65535 - sumW 0 (wordsL (ph 17 (8 + (data.length : Int)) ++ (w2 src ++ w2 dst ++ w2 (8 + (data.length : Int)) ++ ([0, 0] ++ data)))))) rfl rfl rfl (by kernel_rfl) (by kernel_rfl) (by kernel_rfl) (fun _ _ _ _ _ h => absurd h.1 (by simp)) (fun W hS => ex_assign (.tmp 39) rfl rfl) hS7 ?_
      simp only [Act.put, List.setIfInBounds_toArray, List.set_cons_zero, List.set_cons_succ]
      refine wpAnyH_done (by kernel_rfl) ?_ _
      refine ⟨rfl, u, s35, .slice (some ⟨w5.heap.size, 0, none⟩) 4 4, ?_, hS7⟩
      simp only [Act.put, List.setIfInBounds_toArray, List.set_cons_zero, List.set_cons_succ]
  · rintro a' w4 ⟨v33, v35, v38, rfl, hb4⟩
    simp only [Act.put, List.setIfInBounds_toArray, List.set_cons_zero, List.set_cons_succ]
    have HO4 : Hid _ := HO3.out.below s3 hb4
    have hs4 := Nat.le_trans s3 hb4.size
    have hr : 0 ≤ (65535 - sumW 0 (wordsL (ph 17 (8 + (data.length : Int)) ++ (w2 src ++ w2 dst ++ w2 (8 + (data.length : Int)) ++ ([0, 0] ++ data))))) ∧ (65535 - sumW 0 (wordsL (ph 17 (8 + (data.length : Int)) ++ (w2 src ++ w2 dst ++ w2 (8 + (data.length : Int)) ++ ([0, 0] ++ data))))) ≤ 65535 := by
      have := sumW_range (wordsL (ph 17 (8 + (data.length : Int)) ++ (w2 src ++ w2 dst ++ w2 (8 + (data.length : Int)) ++ ([0, 0] ++ data)))) 0 (by decide) (wordsL_words ((HPF.out 17 (8 + (data.length : Int)) (by decide) (by omega)).append (HFIT3.out.append ((fit_of [0, 0] rfl).append HFD.out))))
      omega
    have HRU : Hid (rudpL ph src dst data = w2 src ++ w2 dst ++ w2 (8 + (data.length : Int)) ++ w2 (nz (65535 - sumW 0 (wordsL (ph 17 (8 + (data.length : Int)) ++ (w2 src ++ w2 dst ++ w2 (8 + (data.length : Int)) ++ ([0, 0] ++ data)))))) ++ data) := rfl
    generalize (65535 - sumW 0 (wordsL (ph 17 (8 + (data.length : Int)) ++ (w2 src ++ w2 dst ++ w2 (8 + (data.length : Int)) ++ ([0, 0] ++ data))))) = ck at *
    have hrn := nz_range hr
    clear hb4 HPS HO3
    by_cases hk : ck = 0
    · subst hk
      have hnz : nz 0 = 65535 := rfl
      go_wp2_with fail
      have hS0 : Below W0.heap.size W0 w4.drew := HO4.out.bel.drew
      have o4 : OB W0.heap.size W0 w4.drew (.slice ab 6 cb) (w2 src ++ w2 dst ++ w2 (8 + (data.length : Int))) := ⟨HO4.out.own, hS0⟩
      have hv : 0 ≤ (65535 : Int) ∧ (65535 : Int) ≤ 65535 := by omega
      refine wp_region_held (S := fun W => Below W0.heap.size W0 W) (by kernel_rfl) ?_
      show wpAnyH _ _ _ _ _ 9 (Array.replicate 9 false) _ w4.drew
      refine take_one (i := 0) (d := some 42) (v := .slice ab 6 cb) rfl rfl rfl (by kernel_rfl) (by kernel_rfl) (by kernel_rfl) (fun _ _ d _ _ h => by cases d <;> exact h) (fun W hS => ex_move (.tmp 9) rfl rfl) hS0 ?_
      simp only [Act.put, List.setIfInBounds_toArray, List.set_cons_zero, List.set_cons_succ]
      refine take_one (i := 1) (d := some 43) (v := .int .u16 65535) rfl rfl rfl (by kernel_rfl) (by kernel_rfl) (by kernel_rfl) (fun _ _ d _ _ h => by cases d <;> exact h) (fun W hS => ex_move (.tmp 10) rfl rfl) hS0 ?_
      simp only [Act.put, List.setIfInBounds_toArray, List.set_cons_zero, List.set_cons_succ]
      refine take_one (i := 2) (d := some 44) (v := .int .u64 65535) rfl rfl rfl (by kernel_rfl) (by kernel_rfl) (by kernel_rfl) (fun _ _ d _ _ h => by cases d <;> exact h) (fun W hS => ex_u64 (.tmp 43) (k := .u16) rfl (.inl ⟨rfl, rfl⟩) rfl (by omega)) hS0 ?_
      simp only [Act.put, List.setIfInBounds_toArray, List.set_cons_zero, List.set_cons_succ]
      refine take_one (i := 4) (d := some 46) (v := .pointer (some ⟨w.heap.size, 2, none⟩)) rfl rfl rfl (by kernel_rfl) (by kernel_rfl) (by kernel_rfl) (fun _ _ d _ _ h => by cases d <;> exact h) (fun W hS => ex_fieldU 5 2 rfl rfl (.inr (.inr rfl))) hS0 ?_
      simp only [Act.put, List.setIfInBounds_toArray, List.set_cons_zero, List.set_cons_succ]
      refine take_one (i := 5) (d := some 47) (v := .slice av data.length kv) rfl rfl rfl (by kernel_rfl) (by kernel_rfl) (by kernel_rfl) (fun _ _ d _ _ h => by cases d <;> exact h) (fun W hS => ex_load 46 rfl rfl (K2.out W hS) ⟨_, _, _, rfl⟩) hS0 ?_
      simp only [Act.put, List.setIfInBounds_toArray, List.set_cons_zero, List.set_cons_succ]
      refine all_one (i := 3) (by kernel_rfl) rfl rfl ?_
      refine wp_call (d := some 45) 176 _ rfl (by kernel_rfl) (put_calls o4 hs4 65535 (by omega) 2 (by decide) (by rw [hlen3]; decide)) ?_
      rintro v5 w5 ⟨o5, s5, st5⟩
      refine ⟨o5.bel, ?_⟩
      rw [putB_two hv] at o5
      simp only [Act.put, List.setIfInBounds_toArray, List.set_cons_zero, List.set_cons_succ]
      obtain ⟨v6, w6, hr6, o6, s6, _⟩ := ob_app2 o5 s5 (HD.out w5 o5.bel) (by simp [w2]; omega) 25
      refine all_one (i := 6) (by kernel_rfl) rfl rfl ?_
      refine wp_append (d := some 48) (.tmp 45) (.tmp 47) 25 rfl rfl rfl rfl hr6 ⟨o6.bel, ?_⟩
      simp only [Act.put, List.setIfInBounds_toArray, List.set_cons_zero, List.set_cons_succ]
      refine take_one (i := 7) (d := some 6) (v := v6) rfl rfl rfl (by kernel_rfl) (by kernel_rfl) (by kernel_rfl) (fun _ _ d _ _ h => by cases d <;> exact h) (fun W hS => ex_assign (.tmp 48) rfl rfl) o6.bel ?_
      simp only [Act.put, List.setIfInBounds_toArray, List.set_cons_zero, List.set_cons_succ]
      refine take_one (i := 8) (d := some 7) (v := .int .i64 0) rfl rfl rfl (by kernel_rfl) (by kernel_rfl) (by kernel_rfl) (fun _ _ d _ _ h => by cases d <;> exact h) (fun W hS => ex_assign (.const (.int .i64 0)) rfl rfl) o6.bel ?_
      simp only [Act.put, List.setIfInBounds_toArray, List.set_cons_zero, List.set_cons_succ]
      refine wpAnyH_done (by kernel_rfl) ?_ _
      have H6 : Hid (OB w.heap.size w w6 v6 (rudpL ph src dst data)) := by
        have := o6.lower HB0.out HB0.out.size
        show OB w.heap.size w w6 v6 (rudpL ph src dst data)
        rw [HRU.out, hnz]
        exact this
      clear o5 o6 st5 o4 HO4
      go_wp2
      go_ret2
      exact ⟨_, rfl, H6.out⟩
    · have hnz : nz ck = ck := if_neg hk
      have hq0 : (ck == 0) = false := by simpa using hk
      go_wp2_with fail
      have hS0 : Below W0.heap.size W0 w4.drew := HO4.out.bel.drew
      have o4 : OB W0.heap.size W0 w4.drew (.slice ab 6 cb) (w2 src ++ w2 dst ++ w2 (8 + (data.length : Int))) := ⟨HO4.out.own, hS0⟩
      have hv : 0 ≤ (ck : Int) ∧ (ck : Int) ≤ 65535 := by omega
      refine wp_region_held (S := fun W => Below W0.heap.size W0 W) (by kernel_rfl) ?_
      show wpAnyH _ _ _ _ _ 9 (Array.replicate 9 false) _ w4.drew
      refine take_one (i := 0) (d := some 42) (v := .slice ab 6 cb) rfl rfl rfl (by kernel_rfl) (by kernel_rfl) (by kernel_rfl) (fun _ _ d _ _ h => by cases d <;> exact h) (fun W hS => ex_move (.tmp 9) rfl rfl) hS0 ?_
      simp only [Act.put, List.setIfInBounds_toArray, List.set_cons_zero, List.set_cons_succ]
      refine take_one (i := 1) (d := some 43) (v := .int .u16 ck) rfl rfl rfl (by kernel_rfl) (by kernel_rfl) (by kernel_rfl) (fun _ _ d _ _ h => by cases d <;> exact h) (fun W hS => ex_move (.tmp 10) rfl rfl) hS0 ?_
      simp only [Act.put, List.setIfInBounds_toArray, List.set_cons_zero, List.set_cons_succ]
      refine take_one (i := 2) (d := some 44) (v := .int .u64 ck) rfl rfl rfl (by kernel_rfl) (by kernel_rfl) (by kernel_rfl) (fun _ _ d _ _ h => by cases d <;> exact h) (fun W hS => ex_u64 (.tmp 43) (k := .u16) rfl (.inl ⟨rfl, rfl⟩) rfl (by omega)) hS0 ?_
      simp only [Act.put, List.setIfInBounds_toArray, List.set_cons_zero, List.set_cons_succ]
      refine take_one (i := 4) (d := some 46) (v := .pointer (some ⟨w.heap.size, 2, none⟩)) rfl rfl rfl (by kernel_rfl) (by kernel_rfl) (by kernel_rfl) (fun _ _ d _ _ h => by cases d <;> exact h) (fun W hS => ex_fieldU 5 2 rfl rfl (.inr (.inr rfl))) hS0 ?_
      simp only [Act.put, List.setIfInBounds_toArray, List.set_cons_zero, List.set_cons_succ]
      refine take_one (i := 5) (d := some 47) (v := .slice av data.length kv) rfl rfl rfl (by kernel_rfl) (by kernel_rfl) (by kernel_rfl) (fun _ _ d _ _ h => by cases d <;> exact h) (fun W hS => ex_load 46 rfl rfl (K2.out W hS) ⟨_, _, _, rfl⟩) hS0 ?_
      simp only [Act.put, List.setIfInBounds_toArray, List.set_cons_zero, List.set_cons_succ]
      refine all_one (i := 3) (by kernel_rfl) rfl rfl ?_
      refine wp_call (d := some 45) 176 _ rfl (by kernel_rfl) (put_calls o4 hs4 ck (by omega) 2 (by decide) (by rw [hlen3]; decide)) ?_
      rintro v5 w5 ⟨o5, s5, st5⟩
      refine ⟨o5.bel, ?_⟩
      rw [putB_two hv] at o5
      simp only [Act.put, List.setIfInBounds_toArray, List.set_cons_zero, List.set_cons_succ]
      obtain ⟨v6, w6, hr6, o6, s6, _⟩ := ob_app2 o5 s5 (HD.out w5 o5.bel) (by simp [w2]; omega) 25
      refine all_one (i := 6) (by kernel_rfl) rfl rfl ?_
      refine wp_append (d := some 48) (.tmp 45) (.tmp 47) 25 rfl rfl rfl rfl hr6 ⟨o6.bel, ?_⟩
      simp only [Act.put, List.setIfInBounds_toArray, List.set_cons_zero, List.set_cons_succ]
      refine take_one (i := 7) (d := some 6) (v := v6) rfl rfl rfl (by kernel_rfl) (by kernel_rfl) (by kernel_rfl) (fun _ _ d _ _ h => by cases d <;> exact h) (fun W hS => ex_assign (.tmp 48) rfl rfl) o6.bel ?_
      simp only [Act.put, List.setIfInBounds_toArray, List.set_cons_zero, List.set_cons_succ]
      refine take_one (i := 8) (d := some 7) (v := .int .i64 0) rfl rfl rfl (by kernel_rfl) (by kernel_rfl) (by kernel_rfl) (fun _ _ d _ _ h => by cases d <;> exact h) (fun W hS => ex_assign (.const (.int .i64 0)) rfl rfl) o6.bel ?_
      simp only [Act.put, List.setIfInBounds_toArray, List.set_cons_zero, List.set_cons_succ]
      refine wpAnyH_done (by kernel_rfl) ?_ _
      have H6 : Hid (OB w.heap.size w w6 v6 (rudpL ph src dst data)) := by
        have := o6.lower HB0.out HB0.out.size
        show OB w.heap.size w w6 v6 (rudpL ph src dst data)
        rw [HRU.out, hnz]
        exact this
      clear o5 o6 st5 o4 HO4
      go_wp2
      go_ret2
      exact ⟨_, rfl, H6.out⟩
end Go.Proofs.YtpgnnplpcalbbaaGreat
namespace Go.Proofs.YtpgnnplpcalbbaaGreat
open Go Go.RowKit Go.Shelf
set_option maxHeartbeats 1000000 in
set_option maxRecDepth 100000 in
theorem run_calls6 (R b off len cap n : Nat) (w : World) (hc : w.cell? ⟨R, 0, none⟩ = some (.slice (some ⟨b, off, none⟩) len cap)) (hf : w.frozen? ⟨R, 0, none⟩ = false) (hn : n ≤ len) (hl : len ≤ cap) :
    Calls Tryz.prog 276 #[.pointer (some ⟨R, 0, none⟩), .int .i64 n] w fun e w' => e = .returned (.slice (some ⟨b, off, none⟩) n cap) ∧ w' = w.setCell ⟨R, 0, none⟩ (restV b off len cap n) := by
  by_cases hcap : cap = n
  · subst hcap
    obtain rfl : len = cap := by omega
    simp only [restV, if_true, Nat.sub_self]
    go_enter Tryz.func276, Tryz.ntmps276
    go_wp2
    go_ret
    exact ⟨rfl, rfl⟩
  · simp only [restV, if_neg hcap]
    go_enter Tryz.func276, Tryz.ntmps276
    go_wp2
    go_ret
    exact ⟨rfl, rfl⟩
set_option maxHeartbeats 1000000 in
set_option maxRecDepth 100000 in
theorem wordOf_calls (b off n cap : Nat) (x y : Int) (w : World) (hn : 2 ≤ n) (h0 : w.cell? ⟨b, off, none⟩ = some (.int .u8 x)) (h1 : w.cell? ⟨b, off + 1, none⟩ = some (.int .u8 y)) (bx : 0 ≤ x ∧ x < 256) (by' : 0 ≤ y ∧ y < 256) :
    Calls Tryz.prog 246 #[.slice (some ⟨b, off, none⟩) n cap] w fun e w' => e = .returned (.int .u16 (x * 256 + y)) ∧ w' = w.drew := by
  have hor := or_word x y bx.1 bx.2 by'.1 by'.2
  have q0 : (0 : Int) < (n : Int) := by omega
  have q1 : (1 : Int) < (n : Int) := by omega
  go_enter Tryz.func246, Tryz.ntmps246
  go_wp2
  go_region
  all_goals
    go_wp2
    go_ret
    exact ⟨rfl, rfl⟩
set_option maxHeartbeats 1000000 in
set_option maxRecDepth 100000 in
theorem word_calls6 (R b off len cap : Nat) (x y : Int) (w : World) (hc : w.cell? ⟨R, 0, none⟩ = some (.slice (some ⟨b, off, none⟩) len cap)) (hf : w.frozen? ⟨R, 0, none⟩ = false) (hn : 2 ≤ len) (hl : len ≤ cap) (hR : b ≠ R) (h0 : w.cell? ⟨b, off, none⟩ = some (.int .u8 x)) (h1 : w.cell? ⟨b, off + 1, none⟩ = some (.int .u8 y)) (bx : 0 ≤ x ∧ x < 256) (by' : 0 ≤ y ∧ y < 256) :
    Calls Tryz.prog 264 #[.pointer (some ⟨R, 0, none⟩)] w fun e w' => e = .returned (.int .u16 (x * 256 + y)) ∧ w' = (w.setCell ⟨R, 0, none⟩ (restV b off len cap 2)).drew := by
  have HR : Hid _ := run_calls6 R b off len cap 2 w hc hf hn hl
  have k0 : (w.setCell ⟨R, 0, none⟩ (restV b off len cap 2)).cell? ⟨b, off, none⟩ = some (.int .u8 x) := (World.cell?_setCell_other _ _ _ _ (by intro c; injection c; omega)).trans h0
  have k1 : (w.setCell ⟨R, 0, none⟩ (restV b off len cap 2)).cell? ⟨b, off + 1, none⟩ = some (.int .u8 y) := (World.cell?_setCell_other _ _ _ _ (by intro c; injection c; omega)).trans h1
  generalize w.setCell ⟨R, 0, none⟩ (restV b off len cap 2) = w2 at *
  have HW : Hid _ := wordOf_calls b off 2 cap x y w2 (by decide) k0 k1 bx by'
  clear hc hf h0 h1 k0 k1
  go_enter Tryz.func264, Tryz.ntmps264
  go_wp2_with fail
  refine Calls.mono HR.out ?_
  rintro e w3 ⟨rfl, rfl⟩
  clear HR
  go_wp2_with fail
  refine Calls.mono HW.out ?_
  rintro e w4 ⟨rfl, rfl⟩
  clear HW
  go_wp2
  go_ret
  exact ⟨rfl, rfl⟩
/-- A reader's box: block R has these cells, the first is what is left: the bytes ys of an older world; nothing old is turned. -/
structure RdW (w W : World) (R : Nat) (ty : TypeId) (ys : List Int) (b off cap : Nat) (cs : List Value) : Prop where
  blk : W.heap[R]? = some (.cells (.slice (some ⟨b, off, none⟩) ys.length cap :: cs).toArray ty)
  up : w.heap.size ≤ R
  bel : Below w.heap.size w W
  row : RowS w (.slice (some ⟨b, off, none⟩) ys.length cap) ys b off cap
section
variable {w W : World} {R : Nat} {ty : TypeId} {ys : List Int} {b off cap : Nat} {cs : List Value}
theorem RdW.drew (h : RdW w W R ty ys b off cap cs) : RdW w W.drew R ty ys b off cap cs := ⟨h.blk, h.up, h.bel.drew, h.row⟩
theorem RdW.left (h : RdW w W R ty ys b off cap cs) (n : Nat) (hn : n ≤ ys.length) : RdW w (W.setCell ⟨R, 0, none⟩ (restV b off ys.length cap n)) R ty (ys.drop n) b (nxt off cap n) (cap - n) cs := by
  have hr := h.row.rest n hn
  refine ⟨?_, h.up, h.bel.setCell h.up _, ?_⟩
  · rw [blk_set h.blk, restV_eq]
    simp
  · have e := hr.val
    rw [restV_eq] at hr e
    simpa using hr
theorem RdW.set (h : RdW w W R ty ys b off cap cs) (j : Nat) (v : Value) : RdW w (W.setCell ⟨R, j + 1, none⟩ v) R ty ys b off cap (cs.set j v) := by
  refine ⟨?_, h.up, h.bel.setCell h.up _, h.row⟩
  rw [blk_set h.blk]
  simp
theorem RdW.on {W' : World} (h : RdW w W R ty ys b off cap cs) (hb : Below W.heap.size W W') : RdW w W' R ty ys b off cap cs := ⟨blk_on h.blk hb, h.up, h.bel.trans (hb.mono h.bel.size), h.row⟩
theorem RdW.cell (h : RdW w W R ty ys b off cap cs) (j : Nat) (hj : j < ys.length) : W.cell? ⟨b, off + j, none⟩ = some (.int .u8 (gz ys j)) := (h.bel.cell (p := ⟨b, off + j, none⟩) h.row.lt).trans (h.row.cell j hj)
theorem RdW.ne (h : RdW w W R ty ys b off cap cs) : b ≠ R := by have := h.row.lt; have := h.up; omega
theorem RdW.c0 (h : RdW w W R ty ys b off cap cs) : W.cell? ⟨R, 0, none⟩ = some (.slice (some ⟨b, off, none⟩) ys.length cap) := blk_cell h.blk rfl
theorem RdW.word (h : RdW w W R ty ys b off cap cs) (hn : 2 ≤ ys.length) :
    Calls Tryz.prog 264 #[.pointer (some ⟨R, 0, none⟩)] W fun e w' => e = .returned (.int .u16 (gz ys 0 * 256 + gz ys 1)) ∧ RdW w w' R ty (ys.drop 2) b (nxt off cap 2) (cap - 2) cs := by
  have h0 := h.cell 0 (by omega)
  rw [Nat.add_zero] at h0
  refine (word_calls6 R b off ys.length cap (gz ys 0) (gz ys 1) W h.c0 (blk_open h.blk 0) hn h.row.room h.ne h0 (h.cell 1 (by omega)) (h.row.fit.gz 0) (h.row.fit.gz 1)).mono ?_
  rintro e w' ⟨rfl, rfl⟩
  exact ⟨rfl, (h.left 2 hn).drew⟩
theorem RdW.run (h : RdW w W R ty ys b off cap cs) (n : Nat) (hn : n ≤ ys.length) :
    Calls Tryz.prog 276 #[.pointer (some ⟨R, 0, none⟩), .int .i64 n] W fun e w' => e = .returned (.slice (some ⟨b, off, none⟩) n cap) ∧ RdW w w' R ty (ys.drop n) b (nxt off cap n) (cap - n) cs := by
  refine (run_calls6 R b off ys.length cap n W h.c0 (blk_open h.blk 0) hn h.row.room).mono ?_
  rintro e w' ⟨rfl, rfl⟩
  exact ⟨rfl, h.left n hn⟩
end
theorem or_long (a c : Int) (ha : 0 ≤ a ∧ a ≤ 65535) (hc : 0 ≤ c ∧ c ≤ 65535) : bits .or .u32 (a * 65536) c = a * 65536 + c := by
  obtain ⟨x, rfl⟩ := Int.eq_ofNat_of_zero_le ha.1
  obtain ⟨y, rfl⟩ := Int.eq_ofNat_of_zero_le hc.1
  rw [show ((x : Int) * 65536) = ((x * 65536 : Nat) : Int) by omega, u32_or_nat (x * 65536) y (by omega) (by omega), Nat.or_comm, show x * 65536 = 2 ^ 16 * x by omega, or_hi y x 16 (by omega)]
  omega
end Go.Proofs.YtpgnnplpcalbbaaGreat
