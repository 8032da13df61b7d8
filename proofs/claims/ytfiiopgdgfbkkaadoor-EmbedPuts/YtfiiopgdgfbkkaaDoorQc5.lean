/-
  Package embed: Strict.
-/
import Derived.Test.YtfiiopgdgfbkkaaDoorQc4
namespace Go.Proofs.YtfiiopgdgfbkkaaDoor
set_option linter.unusedVariables false
set_option linter.unusedSimpArgs false
open Go Go.RowKit

def strErr (l : List Int) (n : Int) (x : List Int) : Int := if getErr l n x ≠ 0 then getErr l n x else if putL l n (getL x (plc n)) = x then 0 else 21
def strE (l : List Int) (n : Int) (x : List Int) : Value := AE4 (if strErr l n x = 0 then getL x (plc n) else zeroA4) (strErr l n x)

theorem getErr_ok {l : List Int} {n : Int} {x : List Int} (h : getErr l n x = 0) : chkE l n = 0 ∧ has6 l n x = true ∧ x.getD 8 0 = 0 := by
  unfold getErr at h
  split at h
  · rename_i h1; exact absurd h h1
  · split at h
    · cases h
    · split at h
      · cases h
      · rename_i h1 h2 h3
        exact ⟨by simpa using h1, by simpa using h2, by simpa using h3⟩
theorem getL_len (x : List Int) (n : Int) : (getL x (plc n)).length = 4 := by
  obtain ⟨p0, p1, p2, p3, hpp, _⟩ := plc_lt n
  rw [hpp]
  rfl
theorem getD_fit {x : List Int} (h : FitB x) (p : Nat) : 0 ≤ x.getD p 0 ∧ x.getD p 0 < 256 := by
  rw [List.getD_eq_getElem?_getD]
  cases hx : x[p]? with
  | none => simp
  | some z => exact h z (List.mem_of_getElem? hx)
theorem getL_fit {x : List Int} (h : FitB x) (ps : List Nat) : FitB (getL x ps) := by
  intro z hz
  obtain ⟨p, _, rfl⟩ := List.mem_map.1 hz
  exact getD_fit h p
theorem putK_fit {l : List Int} {a : List Int} (h : FitB l) (ha : FitB a) (ps : List Nat) (k : Nat) : FitB (putK l ps a k) := by
  unfold putK
  generalize List.range k = r
  induction r generalizing l with
  | nil => exact h
  | cons i r ih =>
    rw [List.foldl_cons]
    refine ih (fun z hz => ?_)
    rcases List.mem_or_eq_of_mem_set hz with hz | rfl
    · exact h z hz
    · exact getD_fit ha i

theorem eqlA6 (zs ys : List Int) (h : FitB zs) (g : FitB ys) (hl : zs.length = 16) (gl : ys.length = 16) (w : World) :
    (binOp .eql 23 (A6 zs) (A6 ys)).run Tryd.prog w = .ok (.bool (decide (zs = ys))) w := by
  have := eq_arr16 9998 zs ys h g hl gl w
  simp only [binOp, Op.equal, Op.maxDepth]
  simp [this]
theorem neqA6 (zs ys : List Int) (h : FitB zs) (g : FitB ys) (hl : zs.length = 16) (gl : ys.length = 16) (w : World) :
    (binOp .neq 23 (A6 zs) (A6 ys)).run Tryd.prog w = .ok (.bool (!decide (zs = ys))) w := by
  have := eq_arr16 9998 zs ys h g hl gl w
  simp only [binOp, Op.equal, Op.maxDepth]
  simp [this]
theorem gdA6 (b : BinOp) (x y : Operand) (u v : Array Value) (w : World) : (eqGuard b 23 x y (.agg u) (.agg v)).run Tryd.prog w = .ok () w := by
  have he : Tryd.prog.eqGuardType Tryd.prog.depth 23 = false := by kernel_rfl
  cases b <;> simp [eqGuard, go_sem, he]
theorem eqlA4 (zs ys : List Int) (h : FitB zs) (g : FitB ys) (hl : zs.length = 4) (gl : ys.length = 4) (w : World) :
    (binOp .eql 27 (A4L zs) (A4L ys)).run Tryd.prog w = .ok (.bool (decide (zs = ys))) w := by
  have := eq_arr4 9998 zs ys h g hl gl w
  simp only [binOp, Op.equal, Op.maxDepth]
  unfold A4L b8
  simp [this]
theorem neqA4 (zs ys : List Int) (h : FitB zs) (g : FitB ys) (hl : zs.length = 4) (gl : ys.length = 4) (w : World) :
    (binOp .neq 27 (A4L zs) (A4L ys)).run Tryd.prog w = .ok (.bool (!decide (zs = ys))) w := by
  have := eq_arr4 9998 zs ys h g hl gl w
  simp only [binOp, Op.equal, Op.maxDepth]
  unfold A4L b8
  simp [this]
theorem gdA4 (b : BinOp) (x y : Operand) (u v : Array Value) (w : World) : (eqGuard b 27 x y (.agg u) (.agg v)).run Tryd.prog w = .ok () w := by
  have he : Tryd.prog.eqGuardType Tryd.prog.depth 27 = false := by kernel_rfl
  cases b <;> simp [eqGuard, go_sem, he]

theorem armB {P : Program} {w : World} {ops : Array Oper} {rest : List Oper} {o : Oper} {a : Act} {Q : Exit → Act → World → Prop} (b : BinOp) (t u : TypeId) (x y : Operand)
    (hop : o.op = Op.binOp b t x y u) (hg : o.guard = none) {vx vy v : Value} (hx : a.eval x = vx) (hy : a.eval y = vy) (hgd : (eqGuard b t x y vx vy).run P w = .ok () w) (hrun : (binOp b t vx vy).run P w = .ok v w) (hK : wpList P ops Q rest (a.put o.dst v) w) : wpList P ops Q (o :: rest) a w :=
  arm_bin (by simp [Region.wanted, hg]) b t u x y hop hx hy hgd hrun hK

set_option maxHeartbeats 6000000 in
set_option maxRecDepth 100000 in
theorem Strict_any (l : List Int) (n : Int) (x : List Int) (w : World) (hf : FitB l) (hl : l.length = 16) (hb : -9223372036854775808 ≤ n ∧ n ≤ 9223372036854775807) (hx : x.length = 16) (hfx : FitB x) :
    Calls Tryd.prog 18 #[P6 l n, A6 x] w fun e w' => PutPost (strE l n x) w e w' := by
  generalize hQ : (fun e w' => PutPost (strE l n x) w e w') = Q
  have HQ : Hid _ := hQ
  clear hQ
  have hgt := fun W => Get_any l n x W hf hl hb hx hfx
  obtain ⟨hb0, hb1, hb2, hBw, hz⟩ := boxes3 w (cp6 l n) (u8s x) zero4L 25 23 27
  generalize hW : ((w.alloc (.cells (cp6 l n).toArray 25)).alloc (.cells (u8s x).toArray 23)).alloc (.cells zero4L.toArray 27) = W2 at *
  rw [u8s_b8] at hb1
  have HL : Hid _ := loadP6 hl (CellsAt.pfx hl hb0).1
  have HX0 : Hid _ := load6 hx (cells_b8 hb1)
  have HG : Hid _ := hgt
  have HZ : Hid _ := hz
  clear hgt hz
  go_enter Tryd.func18, Tryd.ntmps18
  go_wp2_with first
    | ((with_reducible show wpList _ _ _ _ _ _); refine armL (.tmp 2) 25 rfl rfl rfl HL.out ?_)
    | ((with_reducible show wpList _ _ _ _ _ _); refine armL (.tmp 3) 23 rfl rfl rfl HX0.out ?_)
  refine (HG.out W2).mono ?_
  rintro e w3 ⟨rfl, hB3⟩
  have hz := HZ.out
  have k0 := (hB3.block w.heap.size (by omega)).trans hb0
  have k1 := (hB3.block (w.heap.size + 1) (by omega)).trans hb1
  have k2 := (hB3.block (w.heap.size + 2) (by omega)).trans hb2
  have hBw3 := hBw.trans (hB3.mono (by omega))
  have hz3 : w.heap.size + 3 ≤ w3.heap.size := by have := hB3.size; omega
  clear hW HL HX0 HG hb0 hb1 hb2 hBw hB3 hz HZ
  unfold getE AE4
  have hAl : (if getErr l n x = 0 then getL x (plc n) else zeroA4).length = 4 := by
    split
    · exact getL_len x n
    · rfl
  obtain ⟨w4, hst4, b4, hB4⟩ := box_new Tryd.sizeOf27 w3 zero4L rfl (b8 (if getErr l n x = 0 then getL x (plc n) else zeroA4)) (by rw [b8_length, hAl]) (b8_one _)
  have HS4 : Hid _ := hst4
  have m0 := (hB4.block w.heap.size (by omega)).trans k0
  have m1 := (hB4.block (w.heap.size + 1) (by omega)).trans k1
  have m2 := (hB4.block (w.heap.size + 2) (by omega)).trans k2
  have hBw4 := hBw3.trans (hB4.mono (by omega))
  have hz4 : w.heap.size + 3 ≤ w4.heap.size := by have := hB4.size; omega
  have hlt4 : w3.heap.size < w4.heap.size := (Array.getElem?_eq_some_iff.1 b4).1
  clear hst4 k0 k1 k2 hBw3 hB4
  by_cases h0 : getErr l n x = 0
  · obtain ⟨g1, g2, g3⟩ := getErr_ok h0
    rw [h0] at HS4 b4 ⊢
    simp only [if_true] at HS4 b4 ⊢
    have hpt := fun W => Put_any l n (getL x (plc n)) W hf hl hb (getL_len x n) (getL_fit hfx _)
    have hpe : putE l n (getL x (plc n)) = AE6 (putL l n (getL x (plc n))) 0 := by unfold putE; rw [if_pos g1, g1]
    rw [hpe] at hpt
    have hsE : strE l n x = AE4 (if putL l n (getL x (plc n)) = x then getL x (plc n) else zeroA4) (if putL l n (getL x (plc n)) = x then 0 else 21) := by
      have e : strErr l n x = if putL l n (getL x (plc n)) = x then 0 else 21 := by unfold strErr; rw [if_neg (by simpa using h0)]
      unfold strE
      rw [e]
      by_cases h : putL l n (getL x (plc n)) = x
      · rw [if_pos h, if_pos h, if_pos rfl]
      · rw [if_neg h, if_neg h, if_neg (by decide)]
    rw [hsE] at HQ
    have hpl16 : (putL l n (getL x (plc n))).length = 16 := by unfold putL; rw [putK_length, hl]
    have hpf : FitB (putL l n (getL x (plc n))) := putK_fit hf (getL_fit hfx _) _ _
    have hgl := getL_len x n
    have HPT : Hid _ := hpt
    have HLP : Hid _ := loadP6 hl (CellsAt.pfx hl m0).1
    have HLA : Hid _ := agg_load (t := 27) Tryd.isAgg27 Tryd.sizeOf27 (by rw [b8_length, hgl]) (CellsAt.of_blk b4)
    have heq : ∀ W, (binOp .neq 23 (A6 (putL l n (getL x (plc n)))) (A6 x)).run Tryd.prog W = .ok (.bool (!decide (putL l n (getL x (plc n)) = x))) W := fun W => neqA6 _ _ hpf hfx hpl16 hx W
    have HEQ : Hid _ := heq
    clear hpt hpe hsE heq hpf
    generalize putL l n (getL x (plc n)) = y at *
    generalize getL x (plc n) = ga at *
    go_wp2_with first
      | ((with_reducible show wpList _ _ _ _ _ _); refine armS (.tmp 6) (.tmp 14) 27 rfl rfl rfl rfl HS4.out ?_)
      | ((with_reducible show wpList _ _ _ _ _ _); refine armL (.tmp 2) 25 rfl rfl rfl HLP.out ?_)
      | ((with_reducible show wpList _ _ _ _ _ _); refine armL (.tmp 6) 27 rfl rfl rfl HLA.out ?_)
    refine (HPT.out w4).mono ?_
    rintro e w5 ⟨rfl, hB5⟩
    obtain ⟨w6, hst6, b6, hB6⟩ := box_new Tryd.sizeOf23 w5 zero16V rfl (b8 y) (by rw [b8_length, hpl16]) (b8_one _)
    have hB56 : Below w4.heap.size w4 w6 := hB5.trans (hB6.mono hB5.size)
    have n1 := (hB56.block (w.heap.size + 1) (by omega)).trans m1
    have n2 := (hB56.block (w.heap.size + 2) (by omega)).trans m2
    have n4 := (hB56.block w3.heap.size hlt4).trans b4
    have hBw6 := hBw4.trans (hB56.mono (by omega))
    have HS6 : Hid _ := hst6
    have HLY : Hid _ := load6 hpl16 (cells_b8 b6)
    have HLX : Hid _ := load6 hx (cells_b8 n1)
    have HLA2 : Hid _ := agg_load (t := 27) Tryd.isAgg27 Tryd.sizeOf27 (by rw [b8_length, hgl]) (CellsAt.of_blk n4)
    unfold AE6
    clear hst6 HPT HLP HLA m0 m1 m2 b4 hB5 hB6 hB56 HS4
    have heq := HEQ.out
    by_cases hyx : y = x
    · rw [if_pos hyx, if_pos hyx] at HQ
      have hd : decide (y = x) = true := by simpa using hyx
      rw [hd] at heq
      have HEQ : Hid _ := heq
      clear heq
      obtain ⟨wE, hst, bE, honE⟩ := box_store Tryd.sizeOf27 n2 rfl (b8 ga) (by rw [b8_length, hgl]) (b8_one _)
      have hlv := agg_loadVar (t := 27) Tryd.isAgg27 Tryd.sizeOf27 (by rw [b8_length, hgl]) (CellsAt.of_blk bE)
      have HBE : Hid (Below w.heap.size w wE) := hBw6.trans (honE.below (by omega))
      have HSQ : Hid _ := hst
      have HLV : Hid _ := hlv
      clear hst hlv bE honE hyx hd
      go_wp2_with first
        | ((with_reducible show wpList _ _ _ _ _ _); refine armS (.tmp 8) (.tmp 24) 23 rfl rfl rfl rfl HS6.out ?_)
        | ((with_reducible show wpList _ _ _ _ _ _); refine armL (.tmp 8) 23 rfl rfl rfl HLY.out ?_)
        | ((with_reducible show wpList _ _ _ _ _ _); refine armL (.tmp 3) 23 rfl rfl rfl HLX.out ?_)
        | ((with_reducible show wpList _ _ _ _ _ _); refine armB .neq 23 23 (.tmp 26) (.tmp 27) rfl rfl rfl rfl (gdA6 _ _ _ _ _ _) (HEQ.out _) ?_)
        | ((with_reducible show wpList _ _ _ _ _ _); refine armL (.tmp 6) 27 rfl rfl rfl HLA2.out ?_)
        | ((with_reducible show wpList _ _ _ _ _ _); refine armS (.tmp 4) (.tmp 30) 27 rfl rfl rfl rfl HSQ.out ?_)
      refine bodyPost_ret (res2c Tryd.results18 rfl HLV.out) rfl ?_
      rw [← HQ.out]
      exact ⟨rfl, HBE.out⟩
    · rw [if_neg hyx, if_neg hyx] at HQ
      have hd : decide (y = x) = false := by simpa using hyx
      rw [hd] at heq
      have HEQ : Hid _ := heq
      clear heq
      obtain ⟨wE, hst, bE, honE⟩ := box_store Tryd.sizeOf27 n2 rfl zero4L rfl (by simp [Value.oneCell'])
      have hlv := agg_loadVar (t := 27) Tryd.isAgg27 Tryd.sizeOf27 rfl (CellsAt.of_blk bE)
      have HBE : Hid (Below w.heap.size w wE) := hBw6.trans (honE.below (by omega))
      have HSQ : Hid _ := hst
      have HLV : Hid _ := hlv
      clear hst hlv bE honE hyx hd
      go_wp2_with first
        | ((with_reducible show wpList _ _ _ _ _ _); refine armS (.tmp 8) (.tmp 24) 23 rfl rfl rfl rfl HS6.out ?_)
        | ((with_reducible show wpList _ _ _ _ _ _); refine armL (.tmp 8) 23 rfl rfl rfl HLY.out ?_)
        | ((with_reducible show wpList _ _ _ _ _ _); refine armL (.tmp 3) 23 rfl rfl rfl HLX.out ?_)
        | ((with_reducible show wpList _ _ _ _ _ _); refine armB .neq 23 23 (.tmp 26) (.tmp 27) rfl rfl rfl rfl (gdA6 _ _ _ _ _ _) (HEQ.out _) ?_)
        | ((with_reducible show wpList _ _ _ _ _ _); refine armS (.tmp 4) (.tmp 29) 27 rfl rfl rfl rfl HSQ.out ?_)
      refine bodyPost_ret (res2c Tryd.results18 rfl HLV.out) rfl ?_
      rw [← HQ.out]
      exact ⟨rfl, HBE.out⟩
  · have hsE : strE l n x = AE4 zeroA4 (getErr l n x) := by
      have e : strErr l n x = getErr l n x := by unfold strErr; rw [if_pos h0]
      unfold strE
      rw [e, if_neg h0]
    rw [hsE] at HQ
    have q0 : (getErr l n x != 0) = true := by simpa using h0
    obtain ⟨wE, hst, bE, honE⟩ := box_store Tryd.sizeOf27 m2 rfl zero4L rfl (by simp [Value.oneCell'])
    have hlv := agg_loadVar (t := 27) Tryd.isAgg27 Tryd.sizeOf27 rfl (CellsAt.of_blk bE)
    have HBE : Hid (Below w.heap.size w wE) := hBw4.trans (honE.below (by omega))
    have HSQ : Hid _ := hst
    have HLV : Hid _ := hlv
    clear hst hlv bE honE hsE b4 hAl
    generalize (if getErr l n x = 0 then getL x (plc n) else zeroA4) = gl at *
    generalize getErr l n x = ce at *
    go_wp2_with first
      | ((with_reducible show wpList _ _ _ _ _ _); refine armS (.tmp 6) (.tmp 14) 27 rfl rfl rfl rfl HS4.out ?_)
      | ((with_reducible show wpList _ _ _ _ _ _); refine armS (.tmp 4) (.tmp 18) 27 rfl rfl rfl rfl HSQ.out ?_)
    refine bodyPost_ret (res2c Tryd.results18 rfl HLV.out) rfl ?_
    rw [← HQ.out]
    exact ⟨rfl, HBE.out⟩

end Go.Proofs.YtfiiopgdgfbkkaaDoor
