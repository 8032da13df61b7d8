/-
  readUDP of package segment.
  The document's ParseUDP.
-/
import Derived.Test.YtpgnnplpcalbbaaGreatFold20
import Derived.Test.YtpgnnplpcalbbaaGreatFold06
set_option linter.unusedVariables false
set_option linter.unusedSimpArgs false
namespace Go.Proofs.YtpgnnplpcalbbaaGreat
open Go Go.RowKit Go.Shelf
/-- A pair of a struct in cells of so many, and an error. -/
def Gave (n : Nat) (er : Int) (e : Ending) : Prop := ∃ D : List Value, D.length = n ∧ (∀ v ∈ D, v.oneCell' = true) ∧ e = .returned (.tuple #[.agg D.toArray, .int .i64 er])
theorem box_store {ty : TypeId} {n : Nat} {w : World} {R : Nat} {c : List Value} (hs : ∀ w, (Go.sizeOf ty).run Tryz.prog w = .ok n w) (h : w.heap[R]? = some (.cells c.toArray ty)) (hl : c.length = n) (V : List Value) (hV : V.length = n) (h1 : ∀ v ∈ V, v.oneCell' = true) :
    ∃ w', (Instr.storeAt ty (.pointer (some ⟨R, 0, none⟩)) (.agg V.toArray)).run Tryz.prog w = .ok () w' ∧ w'.heap[R]? = some (.cells V.toArray ty) ∧ Only R w w' := by
  refine ⟨_, agg_store hs hV h1 (fun j hj => ?_) (fun j => blk_open h j), ?_, Only.sets _ _ _ (Only.refl _ _)⟩
  · rw [Nat.zero_add, blk_cell h (j := j) (v := c[j]'(by omega)) (by simp)]
    rfl
  · rw [blk_sets V 0 c w h, setsL_all _ _ (by omega)]
set_option maxHeartbeats 1000000 in
set_option maxRecDepth 100000 in
theorem readUDP_short (v : Value) (zs : List Int) (w : World) (h : RowC w v zs) (hn : zs.length < 8) :
    Calls Tryz.prog 239 #[v] w fun e w' => Gave 5 60 e ∧ Below w.heap.size w w' := by
  obtain ⟨hf, hl, a, cap, rfl, hc, hz⟩ := h
  have q : decide ((zs.length : Int) < 8) = true := by simp; omega
  clear hz
  go_enter Tryz.func239, Tryz.ntmps239
  go_wp2
  refine bodyPost_ret (res2t rfl rfl (agg_loadVar (vs := [.slice a zs.length cap, .int .u16 0, .int .u16 0, .slice none 0 0, .int .u16 0]) Tryz.isAgg269 Tryz.sizeOf269 rfl (CellsAt.of_blk (blk_alloc (blk_new w _) _)))) rfl ⟨⟨_, ?_, ?_, rfl⟩, ((Below.refl _ w).alloc (Nat.le_refl _) _).alloc (by simp) _⟩
  · rfl
  · simp [Value.oneCell']
def wd2 (zs : List Int) (k : Nat) : Int := gz zs k * 256 + gz zs (k + 1)
theorem wd2_drop (zs : List Int) (n k : Nat) : wd2 (zs.drop n) k = wd2 zs (n + k) := by simp only [wd2, gz_drop, Nat.add_assoc]
theorem wd2_range {zs : List Int} (h : Fit zs) (k : Nat) : 0 ≤ wd2 zs k ∧ wd2 zs k ≤ 65535 := by
  have h1 := h.gz k
  have h2 := h.gz (k + 1)
  unfold wd2
  omega
theorem RdW.word' {w W : World} {R : Nat} {ty : TypeId} {ys : List Int} {b off cap : Nat} {cs : List Value} (h : RdW w W R ty ys b off cap cs) (hn : 2 ≤ ys.length) :
    Calls Tryz.prog 264 #[.pointer (some ⟨R, 0, none⟩)] W fun e w' => ∃ o k, e = .returned (.int .u16 (wd2 ys 0)) ∧ RdW w w' R ty (ys.drop 2) b o k cs :=
  (h.word hn).mono (fun e w' hr => ⟨_, _, hr.1, hr.2⟩)
theorem RdW.sets {w W : World} {R : Nat} {ty : TypeId} {ys : List Int} {b off cap : Nat} {cs : List Value} (h : RdW w W R ty ys b off cap cs) (j i : Nat) (v : Value) (hi : i = j + 1) : RdW w (W.setCell ⟨R, i, none⟩ v) R ty ys b off cap (cs.set j v) := by
  subst hi
  exact h.set j v
set_option maxHeartbeats 2000000 in
set_option maxRecDepth 100000 in
theorem readUDP_more (v : Value) (zs : List Int) (w : World) (h : RowC w v zs) (hn : 8 ≤ zs.length) :
    Calls Tryz.prog 239 #[v] w fun e w' => Below w.heap.size w w' ∧ ((wd2 zs 4 ≠ zs.length → Gave 5 61 e) ∧ (wd2 zs 4 = zs.length → ∃ b o k, e = .returned (.tuple #[.agg #[.slice (some ⟨b, o, none⟩) (zs.drop 8).length k, .int .u16 (wd2 zs 0), .int .u16 (wd2 zs 2), .slice none 0 0, .int .u16 (wd2 zs 6)], .int .i64 0]) ∧ RowS w (.slice (some ⟨b, o, none⟩) (zs.drop 8).length k) (zs.drop 8) b o k)) := by
  obtain ⟨b, off, cap, hS⟩ := h.rowS (by omega)
  have hv := hS.val
  subst hv
  clear h
  obtain ⟨Wz, hWz⟩ : ∃ Wz, (w.alloc (.cells [.slice none 0 0, .int .u16 0, .int .u16 0, .slice none 0 0, .int .u16 0].toArray 269)).alloc (.cells [.slice none 0 0, .int .u16 0, .int .u16 0, .slice none 0 0, .int .u16 0].toArray 269) = Wz := ⟨_, rfl⟩
  have hs1 : (w.alloc (.cells [.slice none 0 0, .int .u16 0, .int .u16 0, .slice none 0 0, .int .u16 0].toArray 269)).heap.size = w.heap.size + 1 := by simp
  have bz0 := blk_alloc (blk_new w (.cells [.slice none 0 0, .int .u16 0, .int .u16 0, .slice none 0 0, .int .u16 0].toArray 269)) (.cells [.slice none 0 0, .int .u16 0, .int .u16 0, .slice none 0 0, .int .u16 0].toArray 269)
  have bz1 := blk_new (w.alloc (.cells [.slice none 0 0, .int .u16 0, .int .u16 0, .slice none 0 0, .int .u16 0].toArray 269)) (.cells [.slice none 0 0, .int .u16 0, .int .u16 0, .slice none 0 0, .int .u16 0].toArray 269)
  have hBz : Below w.heap.size w Wz := by rw [← hWz]; exact ((Below.refl _ w).alloc (Nat.le_refl _) _).alloc (by simp) _
  rw [hWz] at bz0 bz1
  rw [hs1] at bz1
  obtain ⟨W1, hst, b1, hon⟩ := box_store Tryz.sizeOf269 bz1 rfl [.slice (some ⟨b, off, none⟩) zs.length cap, .int .u16 0, .int .u16 0, .slice none 0 0, .int .u16 0] rfl (by simp [Value.oneCell'])
  obtain ⟨Wa, hWa⟩ : ∃ Wa, w.alloc (.cells [.slice none 0 0, .int .u16 0, .int .u16 0, .slice none 0 0, .int .u16 0].toArray 269) = Wa := ⟨_, rfl⟩
  have ba := blk_new w (.cells [.slice none 0 0, .int .u16 0, .int .u16 0, .slice none 0 0, .int .u16 0].toArray 269)
  have hBa := (Below.refl w.heap.size w).alloc (Nat.le_refl _) (.cells [.slice none 0 0, .int .u16 0, .int .u16 0, .slice none 0 0, .int .u16 0].toArray 269)
  rw [hWa] at ba hBa hs1
  have hBl : Below Wa.heap.size Wa W1 := (by rw [← hWz, hWa]; exact (Below.refl _ _).alloc (Nat.le_refl _) _ : Below Wa.heap.size Wa Wz).trans (hon.below (by omega))
  have HST : Hid _ := hst
  have hSa : RowS Wa (.slice (some ⟨b, off, none⟩) zs.length cap) zs b off cap := ⟨rfl, hS.room, Nat.lt_of_lt_of_le hS.lt hBa.size, fun j hj => (hBa.cell (p := ⟨b, off + j, none⟩) hS.lt).trans (hS.cell j hj), hS.fit, hS.len⟩
  have h0 : RdW Wa W1 (w.heap.size + 1) 269 zs b off cap [.int .u16 0, .int .u16 0, .slice none 0 0, .int .u16 0] := ⟨b1, by omega, hBl, hSa⟩
  have q : decide ((zs.length : Int) < 8) = false := by simp; omega
  have HW0 : Hid _ := h0.word' (by omega)
  have HF : Hid (Fit zs) := hS.fit
  have BA : Hid _ := ba
  have HBA : Hid _ := hBa
  have hlt : w.heap.size < Wa.heap.size := by omega
  clear b1 hs1 hBl h0 bz0 bz1 hBz hst hon ba hBa hWa hSa
  go_enter Tryz.func239, Tryz.ntmps239
  go_wp2_with ((with_reducible show wpList _ _ _ _ _ _); refine arm_store rfl (.tmp 4) (.tmp 7) 269 rfl rfl rfl HST.out ?_)
  refine Calls.mono HW0.out ?_
  rintro _ w2 ⟨o2, k2, rfl, h2⟩
  have c2 := blk_cell h2.blk (j := 1) rfl
  have f2 := blk_open h2.blk 1
  have h3 := h2.sets 0 1 (.int .u16 (wd2 zs 0)) rfl
  have HW3 : Hid _ := h3.word' (by simp; omega)
  rw [wd2_drop, List.drop_drop] at HW3
  clear h2 h3 HW0 HST hWz
  go_wp2_with fail
  refine Calls.mono HW3.out ?_
  rintro _ w4 ⟨o4, k4, rfl, h4⟩
  have c4 := blk_cell h4.blk (j := 2) rfl
  have f4 := blk_open h4.blk 2
  have h5 := h4.sets 1 2 (.int .u16 (wd2 zs (2 + 0))) rfl
  have HW5 : Hid _ := h5.word' (by simp; omega)
  rw [wd2_drop, List.drop_drop] at HW5
  clear h4 h5 HW3 c2 f2
  go_wp2_with fail
  refine Calls.mono HW5.out ?_
  rintro _ w6 ⟨o6, k6, rfl, h6⟩
  replace h6 : RdW Wa w6 (w.heap.size + 1) 269 (zs.drop 6) b o6 k6 [.int .u16 (wd2 zs 0), .int .u16 (wd2 zs 2), .slice none 0 0, .int .u16 0] := h6
  have q6 := wd2_range HF.out 4
  clear HW5 c4 f4
  by_cases hL : wd2 zs 4 = zs.length
  · have HW7 : Hid _ := h6.word' (by simp; omega)
    rw [wd2_drop, List.drop_drop] at HW7
    have q7 : (wd2 zs 4 != (zs.length : Int)) = false := by simp [hL]
    have HLL : Hid _ := hL
    clear h6 hL
    go_wp2_with fail
    refine Calls.mono HW7.out ?_
    rintro _ w8 ⟨o8, k8, rfl, h8⟩
    replace h8 : RdW Wa w8 (w.heap.size + 1) 269 (zs.drop 8) b o8 k8 [.int .u16 (wd2 zs 0), .int .u16 (wd2 zs 2), .slice none 0 0, .int .u16 0] := h8
    have c8 := blk_cell h8.blk (j := 4) rfl
    have f8 := blk_open h8.blk 4
    have h9 := h8.sets 3 4 (.int .u16 (wd2 zs 6)) rfl
    have b9 := (h9.bel.block _ hlt).trans BA.out
    have HL : Hid _ := agg_load (t := 269) Tryz.isAgg269 Tryz.sizeOf269 rfl (CellsAt.of_blk h9.blk)
    obtain ⟨wE, hst, bE, hon⟩ := box_store Tryz.sizeOf269 b9 rfl [.slice (some ⟨b, o8, none⟩) (zs.drop 8).length k8, .int .u16 (wd2 zs 0), .int .u16 (wd2 zs 2), .slice none 0 0, .int .u16 (wd2 zs 6)] rfl (by simp [Value.oneCell'])
    have HST : Hid _ := hst
    have HBE : Hid (Below w.heap.size w wE) := (HBA.out.trans (h9.bel.mono HBA.out.size)).trans (hon.below (Nat.le_refl _))
    have HR : Hid (RowS w (.slice (some ⟨b, o8, none⟩) (zs.drop 8).length k8) (zs.drop 8) b o8 k8) := by
      have hr := h9.row
      refine ⟨rfl, hr.room, hS.lt, fun j hj => ?_, hr.fit, hr.len⟩
      exact (HBA.out.cell (p := ⟨b, o8 + j, none⟩) hS.lt).symm.trans (hr.cell j hj)
    have BE : Hid _ := bE
    clear hst bE hon h8 h9 b9 HW7
    go_wp2_with first
      | ((with_reducible show wpList _ _ _ _ _ _); refine arm_load rfl (.tmp 4) 269 rfl rfl HL.out ?_)
      | ((with_reducible show wpList _ _ _ _ _ _); refine arm_store rfl (.tmp 2) (.tmp 30) 269 rfl rfl rfl HST.out ?_)
    exact bodyPost_ret (res2t rfl rfl (agg_loadVar Tryz.isAgg269 Tryz.sizeOf269 rfl (CellsAt.of_blk BE.out))) rfl ⟨HBE.out, fun hne => absurd HLL.out hne, fun _ => ⟨b, o8, k8, rfl, HR.out⟩⟩
  · have q7 : (wd2 zs 4 != (zs.length : Int)) = true := by simp [hL]
    have b9 := (h6.bel.block _ hlt).trans BA.out
    have HL : Hid _ := agg_load (t := 269) Tryz.isAgg269 Tryz.sizeOf269 rfl (CellsAt.of_blk h6.blk)
    obtain ⟨wE, hst, bE, hon⟩ := box_store Tryz.sizeOf269 b9 rfl [.slice (some ⟨b, o6, none⟩) (zs.drop 6).length k6, .int .u16 (wd2 zs 0), .int .u16 (wd2 zs 2), .slice none 0 0, .int .u16 0] rfl (by simp [Value.oneCell'])
    have HST : Hid _ := hst
    have HBE : Hid (Below w.heap.size w wE) := (HBA.out.trans (h6.bel.mono HBA.out.size)).trans (hon.below (Nat.le_refl _))
    have BE : Hid _ := bE
    have HLL : Hid _ := hL
    clear hst bE hon h6 b9 hL
    go_wp2_with first
      | ((with_reducible show wpList _ _ _ _ _ _); refine arm_load rfl (.tmp 4) 269 rfl rfl HL.out ?_)
      | ((with_reducible show wpList _ _ _ _ _ _); refine arm_store rfl (.tmp 2) (.tmp 26) 269 rfl rfl rfl HST.out ?_)
    exact bodyPost_ret (res2t rfl rfl (agg_loadVar Tryz.isAgg269 Tryz.sizeOf269 rfl (CellsAt.of_blk BE.out))) rfl ⟨HBE.out, fun _ => ⟨_, rfl, by simp [Value.oneCell'], rfl⟩, fun he => absurd he HLL.out⟩
end Go.Proofs.YtpgnnplpcalbbaaGreat
namespace Go.Proofs.YtpgnnplpcalbbaaGreat
open Go Go.RowKit Go.Shelf
theorem getB_two (zs : List Int) (k : Nat) : getB zs k 2 = wd2 zs k := by simp [getB, wd2]
theorem all_three {P : Program} {ops : Array Oper} {Q : Exit → Act → World → Prop} {md : Region.Mode} {S : World → Prop} {i1 i2 i3 : Nat} {o1 o2 o3 : Oper} {fuel : Nat} {listed : Array Bool} {a : Act} {w : World} (hr : Region.ready md ops listed = [i1, i2, i3]) (h1 : ops[i1]? = some o1) (g1 : o1.guard = none) (h2 : ops[i2]? = some o2) (g2 : o2.guard = none) (h3 : ops[i3]? = some o3) (g3 : o3.guard = none)
    (k1 : o1.wp P a w (fun a' w' => S w' ∧ wpAnyH P md ops Q S fuel (listed.setIfInBounds i1 true) a' w') Q) (k2 : o2.wp P a w (fun a' w' => S w' ∧ wpAnyH P md ops Q S fuel (listed.setIfInBounds i2 true) a' w') Q) (k3 : o3.wp P a w (fun a' w' => S w' ∧ wpAnyH P md ops Q S fuel (listed.setIfInBounds i3 true) a' w') Q) : wpAnyH P md ops Q S (fuel + 1) listed a w := by
  refine wpAnyH_all (rs := [i1, i2, i3]) hr (by simp) ?_
  intro j hj
  simp at hj
  rcases hj with rfl | rfl | rfl
  · exact wpOp_none h1 g1 k1
  · exact wpOp_none h2 g2 k2
  · exact wpOp_none h3 g3 k3
theorem ex_cv16 {o : Oper} {a : Act} {W : World} (p : Operand) {x : Int} (hop : o.op = Op.convert 210 22 p) (hp : a.eval p = .int .u64 x) (hx : 0 ≤ x ∧ x ≤ 65535) :
    (execOp a.eval o).run Tryz.prog W = .ok (.value (.int .u16 x)) W := by
  have e : IntKind.u16.wrap x = x := by rw [IntKind.wrap_u16]; omega
  generalize a.eval = ev at *
  simp [execOp, hop, hp, go_sem, e]
theorem ex_buildU {o : Oper} {a : Act} {W : World} (p q r : Operand) {x y : Int} {s : Option Addr} {n m : Nat} (hop : o.op = Op.build 140 #[(0, p), (1, q), (2, r)]) (hp : a.eval p = .int .u16 x) (hq : a.eval q = .int .u16 y) (hr : a.eval r = .slice s n m) :
    (execOp a.eval o).run Tryz.prog W = .ok (.value (.agg #[.int .u16 x, .int .u16 y, .slice s n m])) W := by
  generalize a.eval = ev at *
  simp [execOp, hop, hp, hq, hr, go_sem]
theorem copied_bytes {w w2 : World} {B b cap : Nat} {zs : List Int} (h : (zs = [] ∧ b = B) ∨ (w.heap.size ≤ b ∧ OwnG w2 b zs)) (hf : Fit zs) (hl : zs.length ≤ 140737488351232) : BytesAt w2.heap.size w2 (.slice (some ⟨b, 0, none⟩) zs.length cap) zs := by
  rcases h with ⟨rfl, rfl⟩ | ⟨_, h⟩
  · exact ⟨hf, hl, _, _, rfl, .inl rfl⟩
  · have := h.bytes hf hl 0 zs.length cap (by simp)
    simpa using this
theorem slice_from8 {o : Oper} {a : Act} {W : World} (k : Nat) {b off len cap : Nat} (hop : o.op = Op.slice 25 (.tmp k) (some (.const (.int .i64 8))) none none) (hk : a.eval (.tmp k) = .slice (some ⟨b, off, none⟩) len cap) (h8 : 8 ≤ len) (hc : len ≤ cap):
    (execOp a.eval o).run Tryz.prog W = .ok (.value (restV b off len cap 8)) W := by
  have hcst : a.eval (.const (.int .i64 8)) = .int .i64 8 := rfl
  generalize a.eval = ev at *
  have q1 : ¬ ((8 : Int) > (len : Int)) := by omega
  by_cases h : cap = 8
  · subst h
    obtain rfl : len = 8 := by omega
    simp [execOp, hop, hk, hcst, go_sem, restV]
  · have q2 : (8 : Int) ≤ (len : Int) := by omega
    simp [execOp, hop, hk, hcst, go_sem, restV, h, q2, h8]
set_option maxHeartbeats 2000000 in
set_option maxRecDepth 100000 in
theorem RParseUDP_short (sv dv : Value) (N : Nat) (ph : Int → Int → List Int) (v : Value) (zs : List Int) (w : World) (he : EndV w sv dv N ph) (h : RowC w v zs) (hn : zs.length < 8) :
    Calls Tryz.prog 104 #[sv, dv, v] w fun e w' => e = .returned (.tuple #[.agg #[.int .u16 0, .int .u16 0, .slice none 0 0], .bool false, .int .i64 60]) ∧ Below w.heap.size w w' := by
  obtain ⟨W0, hW0⟩ : ∃ W0, w.alloc (.cells [.int .u16 0, .int .u16 0, .slice none 0 0].toArray 140) = W0 := ⟨_, rfl⟩
  have b0 := blk_new w (.cells [.int .u16 0, .int .u16 0, .slice none 0 0].toArray 140)
  have hB0 := (Below.refl w.heap.size w).alloc (Nat.le_refl _) (.cells [.int .u16 0, .int .u16 0, .slice none 0 0].toArray 140)
  rw [hW0] at b0 hB0
  obtain ⟨sa, cs, rfl⟩ := he.sval
  obtain ⟨da, cd, rfl⟩ := he.dval
  obtain ⟨av, cv, rfl, _⟩ := h.val
  have q : decide ((zs.length : Int) < 8) = true := by simp; omega
  obtain ⟨w3, hst3, b3, hon3⟩ := box_store Tryz.sizeOf140 b0 rfl [.int .u16 0, .int .u16 0, .slice none 0 0] rfl (by simp [Value.oneCell'])
  have HST3 : Hid _ := hst3
  have B3 : Hid _ := b3
  have HE : Hid (Below w.heap.size w w3) := hB0.trans (hon3.below (Nat.le_refl _))
  clear h he b0 hB0 hst3 b3 hon3
  go_enter Tryz.func104, Tryz.ntmps104
  go_wp2_with ((with_reducible show wpList _ _ _ _ _ _); refine arm_store rfl (.tmp 6) (.tmp 13) 140 rfl rfl rfl HST3.out ?_)
  exact bodyPost_ret (res3t rfl rfl (agg_loadVar Tryz.isAgg140 Tryz.sizeOf140 rfl (CellsAt.of_blk B3.out))) rfl ⟨rfl, HE.out⟩
set_option maxHeartbeats 2000000 in
set_option maxRecDepth 100000 in
theorem RParseUDP_length (sv dv : Value) (N : Nat) (ph : Int → Int → List Int) (v : Value) (zs : List Int) (w : World) (he : EndV w sv dv N ph) (h : RowC w v zs) (hn : 8 ≤ zs.length) (hL : wd2 zs 4 ≠ zs.length) :
    Calls Tryz.prog 104 #[sv, dv, v] w fun e w' => e = .returned (.tuple #[.agg #[.int .u16 0, .int .u16 0, .slice none 0 0], .bool false, .int .i64 61]) ∧ Below w.heap.size w w' := by
  obtain ⟨W0, hW0⟩ : ∃ W0, w.alloc (.cells [.int .u16 0, .int .u16 0, .slice none 0 0].toArray 140) = W0 := ⟨_, rfl⟩
  have b0 := blk_new w (.cells [.int .u16 0, .int .u16 0, .slice none 0 0].toArray 140)
  have hB0 := (Below.refl w.heap.size w).alloc (Nat.le_refl _) (.cells [.int .u16 0, .int .u16 0, .slice none 0 0].toArray 140)
  rw [hW0] at b0 hB0
  obtain ⟨sa, cs, rfl⟩ := he.sval
  obtain ⟨da, cd, rfl⟩ := he.dval
  have HG : Hid _ := get_calls v zs 4 2 W0 ((h.on hB0).bytes) (by decide) (by omega)
  rw [getB_two] at HG
  have hr := wd2_range h.fit 4
  obtain ⟨av, cv, rfl, _⟩ := h.val
  have q : decide ((zs.length : Int) < 8) = false := by simp; omega
  have q2 : (wd2 zs 4 != (zs.length : Int)) = true := by simp [hL]
  obtain ⟨w3, hst3, b3, hon3⟩ := box_store Tryz.sizeOf140 b0 rfl [.int .u16 0, .int .u16 0, .slice none 0 0] rfl (by simp [Value.oneCell'])
  have HST3 : Hid _ := hst3
  have B3 : Hid _ := b3
  have HE : Hid (Below w.heap.size w w3) := hB0.trans (hon3.below (Nat.le_refl _))
  clear h he b0 hB0 hst3 b3 hon3 hL
  generalize wd2 zs 4 = L4 at *
  go_enter Tryz.func104, Tryz.ntmps104
  go_wp2_with fail
  refine Calls.mono HG.out ?_
  rintro _ w1 ⟨rfl, rfl⟩
  go_wp2_with ((with_reducible show wpList _ _ _ _ _ _); refine arm_store rfl (.tmp 6) (.tmp 20) 140 rfl rfl rfl HST3.out ?_)
  exact bodyPost_ret (res3t rfl rfl (agg_loadVar Tryz.isAgg140 Tryz.sizeOf140 rfl (CellsAt.of_blk B3.out))) rfl ⟨rfl, HE.out⟩
set_option maxHeartbeats 4000000 in
set_option maxRecDepth 100000 in
theorem RParseUDP_good (sv dv : Value) (N : Nat) (ph : Int → Int → List Int) (hN : N ≤ 1000) (v : Value) (zs : List Int) (w : World) (he : EndV w sv dv N ph) (h : RowC w v zs) (hn : 8 ≤ zs.length) (hL : wd2 zs 4 = zs.length) (er : Int) (her : er = if (wd2 zs 6 = 0 ∧ N = 16) ∨ (wd2 zs 6 ≠ 0 ∧ sumW 0 (wordsL (ph 17 zs.length ++ zs)) ≠ 65535) then 62 else 0) :
    Calls Tryz.prog 104 #[sv, dv, v] w fun e w' => Below w.heap.size w w' ∧ ((er ≠ 0 → e = .returned (.tuple #[.agg #[.int .u16 0, .int .u16 0, .slice none 0 0], .bool false, .int .i64 er])) ∧ (er = 0 → ∃ vd, e = .returned (.tuple #[.agg #[.int .u16 (wd2 zs 0), .int .u16 (wd2 zs 2), vd], .bool (wd2 zs 6 == 0), .int .i64 0]) ∧ BytesAt w'.heap.size w' vd (zs.drop 8))) := by
  obtain ⟨W0, hW0⟩ : ∃ W0, w.alloc (.cells [.int .u16 0, .int .u16 0, .slice none 0 0].toArray 140) = W0 := ⟨_, rfl⟩
  have b0 := blk_new w (.cells [.int .u16 0, .int .u16 0, .slice none 0 0].toArray 140)
  have hB0 := (Below.refl w.heap.size w).alloc (Nat.le_refl _) (.cells [.int .u16 0, .int .u16 0, .slice none 0 0].toArray 140)
  rw [hW0] at b0 hB0
  obtain ⟨sa, cs, rfl⟩ := he.sval
  obtain ⟨da, cd, rfl⟩ := he.dval
  have hr4 := wd2_range h.fit 4
  have hr6 := wd2_range h.fit 6
  have hlen : zs.length ≤ 65535 := by omega
  have HG4 : Hid _ := get_calls v zs 4 2 W0 ((h.on hB0).bytes) (by decide) (by omega)
  rw [getB_two] at HG4
  have HG6 : Hid _ := get_calls v zs 6 2 W0 ((h.on hB0).bytes) (by decide) (by omega)
  rw [getB_two] at HG6
  have HG0 : Hid (∀ W, Below W0.heap.size W0 W → Calls Tryz.prog 177 #[v, .int .i64 0, .int .i64 2] W fun e w' => ∃ q, e = .returned q ∧ (q = .int .u64 (wd2 zs 0) ∧ w' = W)) := fun W hW => (get_calls v zs 0 2 W ((h.on (hB0.trans (hW.mono hB0.size))).bytes) (by decide) (by omega)).mono (fun e w' h => ⟨_, h.1, by rw [getB_two], h.2⟩)
  have HG2 : Hid (∀ W, Below W0.heap.size W0 W → Calls Tryz.prog 177 #[v, .int .i64 2, .int .i64 2] W fun e w' => ∃ q, e = .returned q ∧ (q = .int .u64 (wd2 zs 2) ∧ w' = W)) := fun W hW => (get_calls v zs 2 2 W ((h.on (hB0.trans (hW.mono hB0.size))).bytes) (by decide) (by omega)).mono (fun e w' h => ⟨_, h.1, by rw [getB_two], h.2⟩)
  have HPS : Hid (Calls Tryz.prog 51 #[.slice sa N cs, .slice da N cd, .int .u8 17, .int .i64 zs.length] W0 fun e w' => ∃ u, e = .returned u ∧ (BytesAt w'.heap.size w' u (ph 17 zs.length) ∧ Below W0.heap.size W0 w')) := he.tells W0 hB0 17 _ (by decide) (by omega)
  have hev := (he.even 17 zs.length).1
  have hflat : [ph 17 zs.length, zs].flatten = ph 17 zs.length ++ zs := by simp
  have HF : Hid (∀ W u, BytesAt W.heap.size W u (ph 17 zs.length) → Below W0.heap.size W0 W → Calls Tryz.prog 85 #[.slice (some ⟨W.heap.size, 0, none⟩) 2 2] (W.alloc (.cells #[u, v] 25)) fun e w' => e = .returned (.int .u16 (sumW 0 (wordsL (ph 17 zs.length ++ zs)))) ∧ Below W.heap.size W w') := fun W u hu' hW => (fold_ref _ _ _ _ _ (parts_two W _ _ _ _ _ hu' ((h.on (hB0.trans (hW.mono hB0.size))).bytes)) (by rw [hflat, List.length_append]; omega)).mono (fun e w' h => ⟨by rw [h.1, hflat], ((Below.refl _ W).alloc (Nat.le_refl _) _).trans (h.2.mono (by simp))⟩)
  obtain ⟨b, off, cap, hS⟩ := h.rowS (by omega)
  have hv := hS.val
  subst hv
  have hroom := hS.room
  have hrest := (hS.rest 8 hn).row.bytes
  have HREST : Hid (∀ W, Below W0.heap.size W0 W → BytesAt W.heap.size W (restV b off zs.length cap 8) (zs.drop 8)) := fun W hW => hrest.later (hB0.trans (hW.mono hB0.size))
  have q : decide ((zs.length : Int) < 8) = false := by simp; omega
  have q2 : (wd2 zs 4 != (zs.length : Int)) = false := by simp [hL]
  have HF8 : Hid (Fit (zs.drop 8)) := fun z hz => hS.fit z (List.mem_of_mem_drop hz)
  have hcap63 : cap = 8 ∨ 8 < cap := by omega
  have B0 : Hid (∀ W, Below W0.heap.size W0 W → W.heap[w.heap.size]? = some (.cells [.int .u16 0, .int .u16 0, .slice none 0 0].toArray 140)) := fun W hW => blk_on b0 hW
  have HB0 : Hid _ := hB0
  have HR0 := wd2_range hS.fit 0
  have HR2 := wd2_range hS.fit 2
  generalize sumW 0 (wordsL (ph 17 zs.length ++ zs)) = sm at *
  clear h he b0 hB0 hev hflat hrest hL
  generalize wd2 zs 4 = L4 at *
  generalize hk : wd2 zs 6 = ck at *
  have HK : Hid _ := hk
  clear hk
  generalize hs : wd2 zs 0 = sr at *
  generalize hd : wd2 zs 2 = ds at *
  have HSR : Hid _ := hs
  have HDS : Hid _ := hd
  clear hs hd
  go_enter Tryz.func104, Tryz.ntmps104
  go_wp2_with fail
  refine Calls.mono HG4.out ?_
  rintro _ w1 ⟨rfl, hw1⟩
  obtain rfl := hw1.symm
  clear hw1
  go_wp2_with fail
  refine Calls.mono HG6.out ?_
  rintro _ w2 ⟨rfl, hw2⟩
  obtain rfl := hw2.symm
  clear hw2 HG4 HG6
  by_cases hc0 : ck = 0
  · by_cases h16 : N = 16
    · subst h16
      subst hc0
      have HER : er = 62 := by rw [her]; simp
      subst HER
      clear her HF HPS
      obtain ⟨w9, hst9, b9, hon9⟩ := box_store Tryz.sizeOf140 (B0.out _ (Below.refl W0.heap.size W0)) rfl [.int .u16 0, .int .u16 0, .slice none 0 0] rfl (by simp [Value.oneCell'])
      have HST9 : Hid _ := hst9
      have B9 : Hid _ := b9
      have HE : Hid (Below w.heap.size w w9) := (HB0.out.trans (((Below.refl W0.heap.size W0)).mono HB0.out.size)).trans (hon9.below (Nat.le_refl _))
      clear hst9 b9 hon9
      go_wp2_with ((with_reducible show wpList _ _ _ _ _ _); refine arm_store rfl (.tmp 6) (.tmp 45) 140 rfl rfl rfl HST9.out ?_)
      exact bodyPost_ret (res3t rfl rfl (agg_loadVar Tryz.isAgg140 Tryz.sizeOf140 rfl (CellsAt.of_blk B9.out))) rfl ⟨HE.out, fun _ => rfl, fun h0 => absurd h0 (by decide)⟩
    · have HER : er = 0 := by rw [her]; simp [hc0, h16]
      subst HER
      have hq0 : (ck == 0) = true := by simp [hc0]
      have HC0 : Hid _ := hc0
      clear her HF HPS hc0
      have qN : ((N : Int) == 16) = false := by simp; omega
      have hqk : (ck == 0) = true := hq0
      have hdA : Below W0.heap.size W0 W0.drew := ((Below.refl W0.heap.size W0)).drew
      have hdB : Below W0.heap.size W0 (W0.drew.alloc (.cells #[] 5)) := hdA.alloc hdA.size _
      obtain ⟨b9, k9, w9, hr9, hk9, hb9, hown9⟩ := bytes_copied3 (HREST.out _ hdB) W0.drew.heap.size 25
      have hdC : Below W0.heap.size W0 w9 := hdB.trans (hb9.mono hdB.size)
      have hlt9 : w.heap.size < b9 := by
        have h1 : W0.heap.size ≤ W0.drew.heap.size := hdA.size
        have h2 : w.heap.size < W0.heap.size := (Array.getElem?_eq_some_iff.1 (B0.out W0 (Below.refl _ _))).1
        rcases hown9 with ⟨_, rfl⟩ | ⟨h3, _⟩
        · omega
        · have h4 : (W0.drew.alloc (.cells #[] 5)).heap.size = W0.drew.heap.size + 1 := World.size_alloc _ _
          omega
      have hbt9 : BytesAt w9.heap.size w9 (.slice (some ⟨b9, 0, none⟩) (zs.drop 8).length k9) (zs.drop 8) := copied_bytes hown9 HF8.out (by simp; omega)
      obtain ⟨wE, hstE, bE, honE⟩ := box_store Tryz.sizeOf140 (B0.out w9 hdC) rfl [.int .u16 sr, .int .u16 ds, .slice (some ⟨b9, 0, none⟩) (zs.drop 8).length k9] rfl (by simp [Value.oneCell'])
      have hdE : Below W0.heap.size W0 wE → True := fun _ => trivial
      have HV : Hid _ := bytes_only hbt9 honE (.inr ⟨b9, 0, _, _, rfl, hlt9⟩)
      have HE : Hid (Below w.heap.size w wE) := (HB0.out.trans (hdC.mono HB0.out.size)).trans (honE.below (Nat.le_refl _))
      have BE : Hid _ := bE
      clear hb9 hown9 hbt9 bE honE hk9
      go_wp2_with fail
      refine region_mid (fun a a' w' => a' = (((((((((((((a.put (some 46) (.slice (some ⟨b, off, none⟩) zs.length cap)).put (some 49) (.slice (some ⟨b, off, none⟩) zs.length cap)).put (some 53) (.slice (some ⟨b, off, none⟩) zs.length cap)).put (some 54) (restV b off zs.length cap 8)).put (some 57) (.bool true)).put (some 47) (.int .u64 sr)).put (some 48) (.int .u16 sr)).put (some 50) (.int .u64 ds)).put (some 51) (.int .u16 ds)).put (some 52) (.slice (some ⟨W0.drew.heap.size, 0, none⟩) 0 0)).put (some 55) (.slice (some ⟨b9, 0, none⟩) (zs.drop 8).length k9)).put (some 56) (.agg #[.int .u16 sr, .int .u16 ds, .slice (some ⟨b9, 0, none⟩) (zs.drop 8).length k9])).put (some 7) (.bool true)).put (some 8) (.int .i64 0) ∧ w' = wE) ?_ ?_
      · skip
        refine wp_region_held (S := fun W => Below w.heap.size w W) (by kernel_rfl) ?_
        show wpAnyH _ _ _ _ _ 15 (Array.replicate 15 false) _ W0.drew
        have hwA : Below w.heap.size w W0.drew := HB0.out.trans (hdA.mono HB0.out.size)
        have hwB : Below w.heap.size w (W0.drew.alloc (.cells #[] 5)) := HB0.out.trans (hdB.mono HB0.out.size)
        have hwC : Below w.heap.size w w9 := HB0.out.trans (hdC.mono HB0.out.size)
        refine take_one (i := 0) (d := some 46) (v := .slice (some ⟨b, off, none⟩) zs.length cap) rfl rfl rfl (by kernel_rfl) (by kernel_rfl) (by kernel_rfl) (fun _ _ _ _ _ h => absurd h.1 (by simp)) (fun W hS => ex_move (.tmp 2) rfl rfl) hwA ?_
        simp only [Act.put, List.setIfInBounds_toArray, List.set_cons_zero, List.set_cons_succ]
        refine take_one (i := 3) (d := some 49) (v := .slice (some ⟨b, off, none⟩) zs.length cap) rfl rfl rfl (by kernel_rfl) (by kernel_rfl) (by kernel_rfl) (fun _ _ _ _ _ h => absurd h.1 (by simp)) (fun W hS => ex_move (.tmp 2) rfl rfl) hwA ?_
        simp only [Act.put, List.setIfInBounds_toArray, List.set_cons_zero, List.set_cons_succ]
        refine take_one (i := 7) (d := some 53) (v := .slice (some ⟨b, off, none⟩) zs.length cap) rfl rfl rfl (by kernel_rfl) (by kernel_rfl) (by kernel_rfl) (fun _ _ _ _ _ h => absurd h.1 (by simp)) (fun W hS => ex_move (.tmp 2) rfl rfl) hwA ?_
        simp only [Act.put, List.setIfInBounds_toArray, List.set_cons_zero, List.set_cons_succ]
        refine take_one (i := 8) (d := some 54) (v := restV b off zs.length cap 8) rfl rfl rfl (by kernel_rfl) (by kernel_rfl) (by kernel_rfl) (fun _ _ _ _ _ h => absurd h.1 (by simp)) (fun W hS => slice_from8 53 rfl rfl hn hroom) hwA ?_
        simp only [Act.put, List.setIfInBounds_toArray, List.set_cons_zero, List.set_cons_succ]
        refine take_one (i := 11) (d := some 57) (v := .bool true) rfl rfl rfl (by kernel_rfl) (by kernel_rfl) (by kernel_rfl) (fun _ _ _ _ _ h => absurd h.1 (by simp)) (fun W hS => ex_move (.tmp 9) rfl rfl) hwA ?_
        simp only [Act.put, List.setIfInBounds_toArray, List.set_cons_zero, List.set_cons_succ]
        refine all_two (i1 := 1) (i2 := 6) (by kernel_rfl) rfl rfl rfl rfl ?_ ?_
        · skip
          refine wp_call (d := some 47) 177 _ rfl (by kernel_rfl) (HG0.out _ hdA) ?_
          rintro _ _ ⟨rfl, rfl⟩
          refine ⟨hwA, ?_⟩
          simp only [Act.put, List.setIfInBounds_toArray, List.set_cons_zero, List.set_cons_succ]
          refine take_one (i := 2) (d := some 48) (v := .int .u16 sr) rfl rfl rfl (by kernel_rfl) (by kernel_rfl) (by kernel_rfl) (fun _ _ _ _ _ h => absurd h.1 (by simp)) (fun W hS => ex_cv16 (.tmp 47) rfl rfl (by omega)) hwA ?_
          simp only [Act.put, List.setIfInBounds_toArray, List.set_cons_zero, List.set_cons_succ]
          refine all_two (i1 := 4) (i2 := 6) (by kernel_rfl) rfl rfl rfl rfl ?_ ?_
          · skip
            refine wp_call (d := some 50) 177 _ rfl (by kernel_rfl) (HG2.out _ hdA) ?_
            rintro _ _ ⟨rfl, rfl⟩
            refine ⟨hwA, ?_⟩
            simp only [Act.put, List.setIfInBounds_toArray, List.set_cons_zero, List.set_cons_succ]
            refine take_one (i := 5) (d := some 51) (v := .int .u16 ds) rfl rfl rfl (by kernel_rfl) (by kernel_rfl) (by kernel_rfl) (fun _ _ _ _ _ h => absurd h.1 (by simp)) (fun W hS => ex_cv16 (.tmp 50) rfl rfl (by omega)) hwA ?_
            simp only [Act.put, List.setIfInBounds_toArray, List.set_cons_zero, List.set_cons_succ]
            refine all_one (i := 6) (by kernel_rfl) rfl rfl ?_
            refine wp_build (d := some 52) rfl rfl ⟨hwB, ?_⟩
            simp only [Act.put, List.setIfInBounds_toArray, List.set_cons_zero, List.set_cons_succ]
            refine all_one (i := 9) (by kernel_rfl) rfl rfl ?_
            refine wp_append (d := some 55) (.tmp 52) (.tmp 54) 25 rfl rfl rfl rfl hr9 ⟨hwC, ?_⟩
            simp only [Act.put, List.setIfInBounds_toArray, List.set_cons_zero, List.set_cons_succ]
            refine take_one (i := 10) (d := some 56) (v := .agg #[.int .u16 sr, .int .u16 ds, .slice (some ⟨b9, 0, none⟩) (zs.drop 8).length k9]) rfl rfl rfl (by kernel_rfl) (by kernel_rfl) (by kernel_rfl) (fun _ _ _ _ _ h => absurd h.1 (by simp)) (fun W hS => ex_buildU (.tmp 48) (.tmp 51) (.tmp 55) rfl rfl rfl rfl) hwC ?_
            simp only [Act.put, List.setIfInBounds_toArray, List.set_cons_zero, List.set_cons_succ]
            refine all_one (i := 12) (by kernel_rfl) rfl rfl ?_
            refine store_wp (.tmp 6) (.tmp 56) 140 rfl rfl rfl hstE ⟨HE.out, ?_⟩
            simp only [Act.put, List.setIfInBounds_toArray, List.set_cons_zero, List.set_cons_succ]
            refine take_one (i := 13) (d := some 7) (v := .bool true) rfl rfl rfl (by kernel_rfl) (by kernel_rfl) (by kernel_rfl) (fun _ _ _ _ _ h => absurd h.1 (by simp)) (fun W hS => ex_assign (.tmp 57) rfl rfl) HE.out ?_
            simp only [Act.put, List.setIfInBounds_toArray, List.set_cons_zero, List.set_cons_succ]
            refine take_one (i := 14) (d := some 8) (v := .int .i64 0) rfl rfl rfl (by kernel_rfl) (by kernel_rfl) (by kernel_rfl) (fun _ _ _ _ _ h => absurd h.1 (by simp)) (fun W hS => ex_assign (.const (.int .i64 0)) rfl rfl) HE.out ?_
            simp only [Act.put, List.setIfInBounds_toArray, List.set_cons_zero, List.set_cons_succ]
            refine wpAnyH_done (by kernel_rfl) ?_ _
            exact ⟨rfl, rfl, rfl⟩
          · skip
            refine wp_build (d := some 52) rfl rfl ⟨hwB, ?_⟩
            simp only [Act.put, List.setIfInBounds_toArray, List.set_cons_zero, List.set_cons_succ]
            refine all_one (i := 4) (by kernel_rfl) rfl rfl ?_
            refine wp_call (d := some 50) 177 _ rfl (by kernel_rfl) (HG2.out _ hdB) ?_
            rintro _ _ ⟨rfl, rfl⟩
            refine ⟨hwB, ?_⟩
            simp only [Act.put, List.setIfInBounds_toArray, List.set_cons_zero, List.set_cons_succ]
            refine take_one (i := 5) (d := some 51) (v := .int .u16 ds) rfl rfl rfl (by kernel_rfl) (by kernel_rfl) (by kernel_rfl) (fun _ _ _ _ _ h => absurd h.1 (by simp)) (fun W hS => ex_cv16 (.tmp 50) rfl rfl (by omega)) hwB ?_
            simp only [Act.put, List.setIfInBounds_toArray, List.set_cons_zero, List.set_cons_succ]
            refine all_one (i := 9) (by kernel_rfl) rfl rfl ?_
            refine wp_append (d := some 55) (.tmp 52) (.tmp 54) 25 rfl rfl rfl rfl hr9 ⟨hwC, ?_⟩
            simp only [Act.put, List.setIfInBounds_toArray, List.set_cons_zero, List.set_cons_succ]
            refine take_one (i := 10) (d := some 56) (v := .agg #[.int .u16 sr, .int .u16 ds, .slice (some ⟨b9, 0, none⟩) (zs.drop 8).length k9]) rfl rfl rfl (by kernel_rfl) (by kernel_rfl) (by kernel_rfl) (fun _ _ _ _ _ h => absurd h.1 (by simp)) (fun W hS => ex_buildU (.tmp 48) (.tmp 51) (.tmp 55) rfl rfl rfl rfl) hwC ?_
            simp only [Act.put, List.setIfInBounds_toArray, List.set_cons_zero, List.set_cons_succ]
            refine all_one (i := 12) (by kernel_rfl) rfl rfl ?_
            refine store_wp (.tmp 6) (.tmp 56) 140 rfl rfl rfl hstE ⟨HE.out, ?_⟩
            simp only [Act.put, List.setIfInBounds_toArray, List.set_cons_zero, List.set_cons_succ]
            refine take_one (i := 13) (d := some 7) (v := .bool true) rfl rfl rfl (by kernel_rfl) (by kernel_rfl) (by kernel_rfl) (fun _ _ _ _ _ h => absurd h.1 (by simp)) (fun W hS => ex_assign (.tmp 57) rfl rfl) HE.out ?_
            simp only [Act.put, List.setIfInBounds_toArray, List.set_cons_zero, List.set_cons_succ]
            refine take_one (i := 14) (d := some 8) (v := .int .i64 0) rfl rfl rfl (by kernel_rfl) (by kernel_rfl) (by kernel_rfl) (fun _ _ _ _ _ h => absurd h.1 (by simp)) (fun W hS => ex_assign (.const (.int .i64 0)) rfl rfl) HE.out ?_
            simp only [Act.put, List.setIfInBounds_toArray, List.set_cons_zero, List.set_cons_succ]
            refine wpAnyH_done (by kernel_rfl) ?_ _
            exact ⟨rfl, rfl, rfl⟩
        · skip
          refine wp_build (d := some 52) rfl rfl ⟨hwB, ?_⟩
          simp only [Act.put, List.setIfInBounds_toArray, List.set_cons_zero, List.set_cons_succ]
          refine all_one (i := 1) (by kernel_rfl) rfl rfl ?_
          refine wp_call (d := some 47) 177 _ rfl (by kernel_rfl) (HG0.out _ hdB) ?_
          rintro _ _ ⟨rfl, rfl⟩
          refine ⟨hwB, ?_⟩
          simp only [Act.put, List.setIfInBounds_toArray, List.set_cons_zero, List.set_cons_succ]
          refine take_one (i := 2) (d := some 48) (v := .int .u16 sr) rfl rfl rfl (by kernel_rfl) (by kernel_rfl) (by kernel_rfl) (fun _ _ _ _ _ h => absurd h.1 (by simp)) (fun W hS => ex_cv16 (.tmp 47) rfl rfl (by omega)) hwB ?_
          simp only [Act.put, List.setIfInBounds_toArray, List.set_cons_zero, List.set_cons_succ]
          refine all_one (i := 4) (by kernel_rfl) rfl rfl ?_
          refine wp_call (d := some 50) 177 _ rfl (by kernel_rfl) (HG2.out _ hdB) ?_
          rintro _ _ ⟨rfl, rfl⟩
          refine ⟨hwB, ?_⟩
          simp only [Act.put, List.setIfInBounds_toArray, List.set_cons_zero, List.set_cons_succ]
          refine take_one (i := 5) (d := some 51) (v := .int .u16 ds) rfl rfl rfl (by kernel_rfl) (by kernel_rfl) (by kernel_rfl) (fun _ _ _ _ _ h => absurd h.1 (by simp)) (fun W hS => ex_cv16 (.tmp 50) rfl rfl (by omega)) hwB ?_
          simp only [Act.put, List.setIfInBounds_toArray, List.set_cons_zero, List.set_cons_succ]
          refine all_one (i := 9) (by kernel_rfl) rfl rfl ?_
          refine wp_append (d := some 55) (.tmp 52) (.tmp 54) 25 rfl rfl rfl rfl hr9 ⟨hwC, ?_⟩
          simp only [Act.put, List.setIfInBounds_toArray, List.set_cons_zero, List.set_cons_succ]
          refine take_one (i := 10) (d := some 56) (v := .agg #[.int .u16 sr, .int .u16 ds, .slice (some ⟨b9, 0, none⟩) (zs.drop 8).length k9]) rfl rfl rfl (by kernel_rfl) (by kernel_rfl) (by kernel_rfl) (fun _ _ _ _ _ h => absurd h.1 (by simp)) (fun W hS => ex_buildU (.tmp 48) (.tmp 51) (.tmp 55) rfl rfl rfl rfl) hwC ?_
          simp only [Act.put, List.setIfInBounds_toArray, List.set_cons_zero, List.set_cons_succ]
          refine all_one (i := 12) (by kernel_rfl) rfl rfl ?_
          refine store_wp (.tmp 6) (.tmp 56) 140 rfl rfl rfl hstE ⟨HE.out, ?_⟩
          simp only [Act.put, List.setIfInBounds_toArray, List.set_cons_zero, List.set_cons_succ]
          refine take_one (i := 13) (d := some 7) (v := .bool true) rfl rfl rfl (by kernel_rfl) (by kernel_rfl) (by kernel_rfl) (fun _ _ _ _ _ h => absurd h.1 (by simp)) (fun W hS => ex_assign (.tmp 57) rfl rfl) HE.out ?_
          simp only [Act.put, List.setIfInBounds_toArray, List.set_cons_zero, List.set_cons_succ]
          refine take_one (i := 14) (d := some 8) (v := .int .i64 0) rfl rfl rfl (by kernel_rfl) (by kernel_rfl) (by kernel_rfl) (fun _ _ _ _ _ h => absurd h.1 (by simp)) (fun W hS => ex_assign (.const (.int .i64 0)) rfl rfl) HE.out ?_
          simp only [Act.put, List.setIfInBounds_toArray, List.set_cons_zero, List.set_cons_succ]
          refine wpAnyH_done (by kernel_rfl) ?_ _
          exact ⟨rfl, rfl, rfl⟩
      · rintro _ _ ⟨rfl, rfl⟩
        simp only [Act.put, List.setIfInBounds_toArray, List.set_cons_zero, List.set_cons_succ]
        go_wp2
        exact bodyPost_ret (res3t rfl rfl (agg_loadVar Tryz.isAgg140 Tryz.sizeOf140 rfl (CellsAt.of_blk BE.out))) rfl ⟨HE.out, _, rfl, HV.out⟩
  · have q3 : (ck == 0) = false := by simp [hc0]
    go_wp2_with fail
    refine Calls.mono HPS.out ?_
    rintro _ w3 ⟨u, rfl, hu, hb3⟩
    obtain ⟨au, cu, eu, _⟩ := hu.val
    subst eu
    have HF3 : Hid _ := HF.out w3 _ hu hb3
    generalize (ph 17 zs.length).length = lu at *
    clear hu HF HPS
    go_wp2_with fail
    refine Calls.mono HF3.out ?_
    rintro _ w4 ⟨rfl, hb4⟩
    have hx4 := hb3.trans (hb4.mono hb3.size)
    clear HF3
    by_cases hs : sm = 65535
    · subst hs
      have HER : er = 0 := by rw [her]; simp [hc0]
      subst HER
      clear her
      have hqk : (ck == 0) = false := q3
      have hdA : Below W0.heap.size W0 w4.drew := (hx4).drew
      have hdB : Below W0.heap.size W0 (w4.drew.alloc (.cells #[] 5)) := hdA.alloc hdA.size _
      obtain ⟨b9, k9, w9, hr9, hk9, hb9, hown9⟩ := bytes_copied3 (HREST.out _ hdB) w4.drew.heap.size 25
      have hdC : Below W0.heap.size W0 w9 := hdB.trans (hb9.mono hdB.size)
      have hlt9 : w.heap.size < b9 := by
        have h1 : W0.heap.size ≤ w4.drew.heap.size := hdA.size
        have h2 : w.heap.size < W0.heap.size := (Array.getElem?_eq_some_iff.1 (B0.out W0 (Below.refl _ _))).1
        rcases hown9 with ⟨_, rfl⟩ | ⟨h3, _⟩
        · omega
        · have h4 : (w4.drew.alloc (.cells #[] 5)).heap.size = w4.drew.heap.size + 1 := World.size_alloc _ _
          omega
      have hbt9 : BytesAt w9.heap.size w9 (.slice (some ⟨b9, 0, none⟩) (zs.drop 8).length k9) (zs.drop 8) := copied_bytes hown9 HF8.out (by simp; omega)
      obtain ⟨wE, hstE, bE, honE⟩ := box_store Tryz.sizeOf140 (B0.out w9 hdC) rfl [.int .u16 sr, .int .u16 ds, .slice (some ⟨b9, 0, none⟩) (zs.drop 8).length k9] rfl (by simp [Value.oneCell'])
      have hdE : Below W0.heap.size W0 wE → True := fun _ => trivial
      have HV : Hid _ := bytes_only hbt9 honE (.inr ⟨b9, 0, _, _, rfl, hlt9⟩)
      have HE : Hid (Below w.heap.size w wE) := (HB0.out.trans (hdC.mono HB0.out.size)).trans (honE.below (Nat.le_refl _))
      have BE : Hid _ := bE
      clear hb9 hown9 hbt9 bE honE hk9
      go_wp2_with fail
      refine region_mid (fun a a' w' => a' = (((((((((((((a.put (some 46) (.slice (some ⟨b, off, none⟩) zs.length cap)).put (some 49) (.slice (some ⟨b, off, none⟩) zs.length cap)).put (some 53) (.slice (some ⟨b, off, none⟩) zs.length cap)).put (some 54) (restV b off zs.length cap 8)).put (some 57) (.bool false)).put (some 47) (.int .u64 sr)).put (some 48) (.int .u16 sr)).put (some 50) (.int .u64 ds)).put (some 51) (.int .u16 ds)).put (some 52) (.slice (some ⟨w4.drew.heap.size, 0, none⟩) 0 0)).put (some 55) (.slice (some ⟨b9, 0, none⟩) (zs.drop 8).length k9)).put (some 56) (.agg #[.int .u16 sr, .int .u16 ds, .slice (some ⟨b9, 0, none⟩) (zs.drop 8).length k9])).put (some 7) (.bool false)).put (some 8) (.int .i64 0) ∧ w' = wE) ?_ ?_
      · skip
        refine wp_region_held (S := fun W => Below w.heap.size w W) (by kernel_rfl) ?_
        show wpAnyH _ _ _ _ _ 15 (Array.replicate 15 false) _ w4.drew
        have hwA : Below w.heap.size w w4.drew := HB0.out.trans (hdA.mono HB0.out.size)
        have hwB : Below w.heap.size w (w4.drew.alloc (.cells #[] 5)) := HB0.out.trans (hdB.mono HB0.out.size)
        have hwC : Below w.heap.size w w9 := HB0.out.trans (hdC.mono HB0.out.size)
        refine take_one (i := 0) (d := some 46) (v := .slice (some ⟨b, off, none⟩) zs.length cap) rfl rfl rfl (by kernel_rfl) (by kernel_rfl) (by kernel_rfl) (fun _ _ _ _ _ h => absurd h.1 (by simp)) (fun W hS => ex_move (.tmp 2) rfl rfl) hwA ?_
        simp only [Act.put, List.setIfInBounds_toArray, List.set_cons_zero, List.set_cons_succ]
        refine take_one (i := 3) (d := some 49) (v := .slice (some ⟨b, off, none⟩) zs.length cap) rfl rfl rfl (by kernel_rfl) (by kernel_rfl) (by kernel_rfl) (fun _ _ _ _ _ h => absurd h.1 (by simp)) (fun W hS => ex_move (.tmp 2) rfl rfl) hwA ?_
        simp only [Act.put, List.setIfInBounds_toArray, List.set_cons_zero, List.set_cons_succ]
        refine take_one (i := 7) (d := some 53) (v := .slice (some ⟨b, off, none⟩) zs.length cap) rfl rfl rfl (by kernel_rfl) (by kernel_rfl) (by kernel_rfl) (fun _ _ _ _ _ h => absurd h.1 (by simp)) (fun W hS => ex_move (.tmp 2) rfl rfl) hwA ?_
        simp only [Act.put, List.setIfInBounds_toArray, List.set_cons_zero, List.set_cons_succ]
        refine take_one (i := 8) (d := some 54) (v := restV b off zs.length cap 8) rfl rfl rfl (by kernel_rfl) (by kernel_rfl) (by kernel_rfl) (fun _ _ _ _ _ h => absurd h.1 (by simp)) (fun W hS => slice_from8 53 rfl rfl hn hroom) hwA ?_
        simp only [Act.put, List.setIfInBounds_toArray, List.set_cons_zero, List.set_cons_succ]
        refine take_one (i := 11) (d := some 57) (v := .bool false) rfl rfl rfl (by kernel_rfl) (by kernel_rfl) (by kernel_rfl) (fun _ _ _ _ _ h => absurd h.1 (by simp)) (fun W hS => ex_move (.tmp 9) rfl rfl) hwA ?_
        simp only [Act.put, List.setIfInBounds_toArray, List.set_cons_zero, List.set_cons_succ]
        refine all_two (i1 := 1) (i2 := 6) (by kernel_rfl) rfl rfl rfl rfl ?_ ?_
        · skip
          refine wp_call (d := some 47) 177 _ rfl (by kernel_rfl) (HG0.out _ hdA) ?_
          rintro _ _ ⟨rfl, rfl⟩
          refine ⟨hwA, ?_⟩
          simp only [Act.put, List.setIfInBounds_toArray, List.set_cons_zero, List.set_cons_succ]
          refine take_one (i := 2) (d := some 48) (v := .int .u16 sr) rfl rfl rfl (by kernel_rfl) (by kernel_rfl) (by kernel_rfl) (fun _ _ _ _ _ h => absurd h.1 (by simp)) (fun W hS => ex_cv16 (.tmp 47) rfl rfl (by omega)) hwA ?_
          simp only [Act.put, List.setIfInBounds_toArray, List.set_cons_zero, List.set_cons_succ]
          refine all_two (i1 := 4) (i2 := 6) (by kernel_rfl) rfl rfl rfl rfl ?_ ?_
          · skip
            refine wp_call (d := some 50) 177 _ rfl (by kernel_rfl) (HG2.out _ hdA) ?_
            rintro _ _ ⟨rfl, rfl⟩
            refine ⟨hwA, ?_⟩
            simp only [Act.put, List.setIfInBounds_toArray, List.set_cons_zero, List.set_cons_succ]
            refine take_one (i := 5) (d := some 51) (v := .int .u16 ds) rfl rfl rfl (by kernel_rfl) (by kernel_rfl) (by kernel_rfl) (fun _ _ _ _ _ h => absurd h.1 (by simp)) (fun W hS => ex_cv16 (.tmp 50) rfl rfl (by omega)) hwA ?_
            simp only [Act.put, List.setIfInBounds_toArray, List.set_cons_zero, List.set_cons_succ]
            refine all_one (i := 6) (by kernel_rfl) rfl rfl ?_
            refine wp_build (d := some 52) rfl rfl ⟨hwB, ?_⟩
            simp only [Act.put, List.setIfInBounds_toArray, List.set_cons_zero, List.set_cons_succ]
            refine all_one (i := 9) (by kernel_rfl) rfl rfl ?_
            refine wp_append (d := some 55) (.tmp 52) (.tmp 54) 25 rfl rfl rfl rfl hr9 ⟨hwC, ?_⟩
            simp only [Act.put, List.setIfInBounds_toArray, List.set_cons_zero, List.set_cons_succ]
            refine take_one (i := 10) (d := some 56) (v := .agg #[.int .u16 sr, .int .u16 ds, .slice (some ⟨b9, 0, none⟩) (zs.drop 8).length k9]) rfl rfl rfl (by kernel_rfl) (by kernel_rfl) (by kernel_rfl) (fun _ _ _ _ _ h => absurd h.1 (by simp)) (fun W hS => ex_buildU (.tmp 48) (.tmp 51) (.tmp 55) rfl rfl rfl rfl) hwC ?_
            simp only [Act.put, List.setIfInBounds_toArray, List.set_cons_zero, List.set_cons_succ]
            refine all_one (i := 12) (by kernel_rfl) rfl rfl ?_
            refine store_wp (.tmp 6) (.tmp 56) 140 rfl rfl rfl hstE ⟨HE.out, ?_⟩
            simp only [Act.put, List.setIfInBounds_toArray, List.set_cons_zero, List.set_cons_succ]
            refine take_one (i := 13) (d := some 7) (v := .bool false) rfl rfl rfl (by kernel_rfl) (by kernel_rfl) (by kernel_rfl) (fun _ _ _ _ _ h => absurd h.1 (by simp)) (fun W hS => ex_assign (.tmp 57) rfl rfl) HE.out ?_
            simp only [Act.put, List.setIfInBounds_toArray, List.set_cons_zero, List.set_cons_succ]
            refine take_one (i := 14) (d := some 8) (v := .int .i64 0) rfl rfl rfl (by kernel_rfl) (by kernel_rfl) (by kernel_rfl) (fun _ _ _ _ _ h => absurd h.1 (by simp)) (fun W hS => ex_assign (.const (.int .i64 0)) rfl rfl) HE.out ?_
            simp only [Act.put, List.setIfInBounds_toArray, List.set_cons_zero, List.set_cons_succ]
            refine wpAnyH_done (by kernel_rfl) ?_ _
            exact ⟨rfl, rfl, rfl⟩
          · skip
            refine wp_build (d := some 52) rfl rfl ⟨hwB, ?_⟩
            simp only [Act.put, List.setIfInBounds_toArray, List.set_cons_zero, List.set_cons_succ]
            refine all_one (i := 4) (by kernel_rfl) rfl rfl ?_
            refine wp_call (d := some 50) 177 _ rfl (by kernel_rfl) (HG2.out _ hdB) ?_
            rintro _ _ ⟨rfl, rfl⟩
            refine ⟨hwB, ?_⟩
            simp only [Act.put, List.setIfInBounds_toArray, List.set_cons_zero, List.set_cons_succ]
            refine take_one (i := 5) (d := some 51) (v := .int .u16 ds) rfl rfl rfl (by kernel_rfl) (by kernel_rfl) (by kernel_rfl) (fun _ _ _ _ _ h => absurd h.1 (by simp)) (fun W hS => ex_cv16 (.tmp 50) rfl rfl (by omega)) hwB ?_
            simp only [Act.put, List.setIfInBounds_toArray, List.set_cons_zero, List.set_cons_succ]
            refine all_one (i := 9) (by kernel_rfl) rfl rfl ?_
            refine wp_append (d := some 55) (.tmp 52) (.tmp 54) 25 rfl rfl rfl rfl hr9 ⟨hwC, ?_⟩
            simp only [Act.put, List.setIfInBounds_toArray, List.set_cons_zero, List.set_cons_succ]
            refine take_one (i := 10) (d := some 56) (v := .agg #[.int .u16 sr, .int .u16 ds, .slice (some ⟨b9, 0, none⟩) (zs.drop 8).length k9]) rfl rfl rfl (by kernel_rfl) (by kernel_rfl) (by kernel_rfl) (fun _ _ _ _ _ h => absurd h.1 (by simp)) (fun W hS => ex_buildU (.tmp 48) (.tmp 51) (.tmp 55) rfl rfl rfl rfl) hwC ?_
            simp only [Act.put, List.setIfInBounds_toArray, List.set_cons_zero, List.set_cons_succ]
            refine all_one (i := 12) (by kernel_rfl) rfl rfl ?_
            refine store_wp (.tmp 6) (.tmp 56) 140 rfl rfl rfl hstE ⟨HE.out, ?_⟩
            simp only [Act.put, List.setIfInBounds_toArray, List.set_cons_zero, List.set_cons_succ]
            refine take_one (i := 13) (d := some 7) (v := .bool false) rfl rfl rfl (by kernel_rfl) (by kernel_rfl) (by kernel_rfl) (fun _ _ _ _ _ h => absurd h.1 (by simp)) (fun W hS => ex_assign (.tmp 57) rfl rfl) HE.out ?_
            simp only [Act.put, List.setIfInBounds_toArray, List.set_cons_zero, List.set_cons_succ]
            refine take_one (i := 14) (d := some 8) (v := .int .i64 0) rfl rfl rfl (by kernel_rfl) (by kernel_rfl) (by kernel_rfl) (fun _ _ _ _ _ h => absurd h.1 (by simp)) (fun W hS => ex_assign (.const (.int .i64 0)) rfl rfl) HE.out ?_
            simp only [Act.put, List.setIfInBounds_toArray, List.set_cons_zero, List.set_cons_succ]
            refine wpAnyH_done (by kernel_rfl) ?_ _
            exact ⟨rfl, rfl, rfl⟩
        · skip
          refine wp_build (d := some 52) rfl rfl ⟨hwB, ?_⟩
          simp only [Act.put, List.setIfInBounds_toArray, List.set_cons_zero, List.set_cons_succ]
          refine all_one (i := 1) (by kernel_rfl) rfl rfl ?_
          refine wp_call (d := some 47) 177 _ rfl (by kernel_rfl) (HG0.out _ hdB) ?_
          rintro _ _ ⟨rfl, rfl⟩
          refine ⟨hwB, ?_⟩
          simp only [Act.put, List.setIfInBounds_toArray, List.set_cons_zero, List.set_cons_succ]
          refine take_one (i := 2) (d := some 48) (v := .int .u16 sr) rfl rfl rfl (by kernel_rfl) (by kernel_rfl) (by kernel_rfl) (fun _ _ _ _ _ h => absurd h.1 (by simp)) (fun W hS => ex_cv16 (.tmp 47) rfl rfl (by omega)) hwB ?_
          simp only [Act.put, List.setIfInBounds_toArray, List.set_cons_zero, List.set_cons_succ]
          refine all_one (i := 4) (by kernel_rfl) rfl rfl ?_
          refine wp_call (d := some 50) 177 _ rfl (by kernel_rfl) (HG2.out _ hdB) ?_
          rintro _ _ ⟨rfl, rfl⟩
          refine ⟨hwB, ?_⟩
          simp only [Act.put, List.setIfInBounds_toArray, List.set_cons_zero, List.set_cons_succ]
          refine take_one (i := 5) (d := some 51) (v := .int .u16 ds) rfl rfl rfl (by kernel_rfl) (by kernel_rfl) (by kernel_rfl) (fun _ _ _ _ _ h => absurd h.1 (by simp)) (fun W hS => ex_cv16 (.tmp 50) rfl rfl (by omega)) hwB ?_
          simp only [Act.put, List.setIfInBounds_toArray, List.set_cons_zero, List.set_cons_succ]
          refine all_one (i := 9) (by kernel_rfl) rfl rfl ?_
          refine wp_append (d := some 55) (.tmp 52) (.tmp 54) 25 rfl rfl rfl rfl hr9 ⟨hwC, ?_⟩
          simp only [Act.put, List.setIfInBounds_toArray, List.set_cons_zero, List.set_cons_succ]
          refine take_one (i := 10) (d := some 56) (v := .agg #[.int .u16 sr, .int .u16 ds, .slice (some ⟨b9, 0, none⟩) (zs.drop 8).length k9]) rfl rfl rfl (by kernel_rfl) (by kernel_rfl) (by kernel_rfl) (fun _ _ _ _ _ h => absurd h.1 (by simp)) (fun W hS => ex_buildU (.tmp 48) (.tmp 51) (.tmp 55) rfl rfl rfl rfl) hwC ?_
          simp only [Act.put, List.setIfInBounds_toArray, List.set_cons_zero, List.set_cons_succ]
          refine all_one (i := 12) (by kernel_rfl) rfl rfl ?_
          refine store_wp (.tmp 6) (.tmp 56) 140 rfl rfl rfl hstE ⟨HE.out, ?_⟩
          simp only [Act.put, List.setIfInBounds_toArray, List.set_cons_zero, List.set_cons_succ]
          refine take_one (i := 13) (d := some 7) (v := .bool false) rfl rfl rfl (by kernel_rfl) (by kernel_rfl) (by kernel_rfl) (fun _ _ _ _ _ h => absurd h.1 (by simp)) (fun W hS => ex_assign (.tmp 57) rfl rfl) HE.out ?_
          simp only [Act.put, List.setIfInBounds_toArray, List.set_cons_zero, List.set_cons_succ]
          refine take_one (i := 14) (d := some 8) (v := .int .i64 0) rfl rfl rfl (by kernel_rfl) (by kernel_rfl) (by kernel_rfl) (fun _ _ _ _ _ h => absurd h.1 (by simp)) (fun W hS => ex_assign (.const (.int .i64 0)) rfl rfl) HE.out ?_
          simp only [Act.put, List.setIfInBounds_toArray, List.set_cons_zero, List.set_cons_succ]
          refine wpAnyH_done (by kernel_rfl) ?_ _
          exact ⟨rfl, rfl, rfl⟩
      · rintro _ _ ⟨rfl, rfl⟩
        simp only [Act.put, List.setIfInBounds_toArray, List.set_cons_zero, List.set_cons_succ]
        go_wp2
        exact bodyPost_ret (res3t rfl rfl (agg_loadVar Tryz.isAgg140 Tryz.sizeOf140 rfl (CellsAt.of_blk BE.out))) rfl ⟨HE.out, _, rfl, HV.out⟩
    · have HER : er = 62 := by rw [her]; simp [hc0, hs]
      subst HER
      clear her
      have q5 : (sm != 65535) = true := by simp [hs]
      obtain ⟨w9, hst9, b9, hon9⟩ := box_store Tryz.sizeOf140 (B0.out _ hx4) rfl [.int .u16 0, .int .u16 0, .slice none 0 0] rfl (by simp [Value.oneCell'])
      have HST9 : Hid _ := hst9
      have B9 : Hid _ := b9
      have HE : Hid (Below w.heap.size w w9) := (HB0.out.trans ((hx4).mono HB0.out.size)).trans (hon9.below (Nat.le_refl _))
      clear hst9 b9 hon9
      go_wp2_with ((with_reducible show wpList _ _ _ _ _ _); refine arm_store rfl (.tmp 6) (.tmp 45) 140 rfl rfl rfl HST9.out ?_)
      exact bodyPost_ret (res3t rfl rfl (agg_loadVar Tryz.isAgg140 Tryz.sizeOf140 rfl (CellsAt.of_blk B9.out))) rfl ⟨HE.out, fun _ => rfl, fun h0 => absurd h0 (by decide)⟩
end Go.Proofs.YtpgnnplpcalbbaaGreat
