/-
  Package embed: Put.
-/
import Derived.Test.YtfiiopgdgfbkkaaDoorQc2
import Derived.Test.YtfiiopgdgfbkkaaDoorQb5
namespace Go.Proofs.YtfiiopgdgfbkkaaDoor
set_option linter.unusedVariables false
set_option linter.unusedSimpArgs false
open Go Go.RowKit

def putK (l : List Int) (ps : List Nat) (a : List Int) (k : Nat) : List Int := (List.range k).foldl (fun x i => x.set (ps.getD i 0) (a.getD i 0)) l
def putL (l : List Int) (n : Int) (a : List Int) : List Int := putK l (plc n) a 4
theorem putK_length (l : List Int) (ps : List Nat) (a : List Int) (k : Nat) : (putK l ps a k).length = l.length := by
  unfold putK
  generalize List.range k = r
  induction r generalizing l with
  | nil => rfl
  | cons x r ih => rw [List.foldl_cons, ih]; simp

theorem plc_lt (n : Int) : ∃ p0 p1 p2 p3, plc n = [p0, p1, p2, p3] ∧ p0 < 16 ∧ p1 < 16 ∧ p2 < 16 ∧ p3 < 16 := by
  unfold plc
  repeat' split
  all_goals exact ⟨_, _, _, _, rfl, by decide, by decide, by decide, by decide⟩

/-- An address and an error. -/
def AE6 (l : List Int) (e : Int) : Value := .tuple #[A6 l, .int .i64 e]
def AE4 (l : List Int) (e : Int) : Value := .tuple #[A4L l, .int .i64 e]
abbrev zeroA6 : List Int := [0, 0, 0, 0, 0, 0, 0, 0, 0, 0, 0, 0, 0, 0, 0, 0]

def putE (l : List Int) (n : Int) (a : List Int) : Value := AE6 (if chkE l n = 0 then putL l n a else zeroA6) (chkE l n)

theorem chkE_ok {l : List Int} {n : Int} (h : chkE l n = 0) : okP6 l n = true ∧ lenOk n = true ∧ l.getD 8 0 = 0 := by
  unfold chkE at h
  split at h
  · cases h
  · split at h
    · cases h
    · split at h
      · cases h
      · rename_i h1 h2 h3
        exact ⟨by simpa using h1, by simpa using h2, by simpa using h3⟩

def PutPost (v : Value) (w : World) (e : Ending) (w' : World) : Prop := e = .returned v ∧ Below w.heap.size w w'

theorem boxes3 (w : World) (c0 c1 c2 : List Value) (t0 t1 t2 : TypeId) :
    (((w.alloc (.cells c0.toArray t0)).alloc (.cells c1.toArray t1)).alloc (.cells c2.toArray t2)).heap[w.heap.size]? = some (.cells c0.toArray t0) ∧
    (((w.alloc (.cells c0.toArray t0)).alloc (.cells c1.toArray t1)).alloc (.cells c2.toArray t2)).heap[w.heap.size + 1]? = some (.cells c1.toArray t1) ∧
    (((w.alloc (.cells c0.toArray t0)).alloc (.cells c1.toArray t1)).alloc (.cells c2.toArray t2)).heap[w.heap.size + 2]? = some (.cells c2.toArray t2) ∧
    Below w.heap.size w (((w.alloc (.cells c0.toArray t0)).alloc (.cells c1.toArray t1)).alloc (.cells c2.toArray t2)) ∧
    (((w.alloc (.cells c0.toArray t0)).alloc (.cells c1.toArray t1)).alloc (.cells c2.toArray t2)).heap.size = w.heap.size + 3 := by
  have h1 := blk_new (w.alloc (.cells c0.toArray t0)) (.cells c1.toArray t1)
  have h2 := blk_new ((w.alloc (.cells c0.toArray t0)).alloc (.cells c1.toArray t1)) (.cells c2.toArray t2)
  have z1 : (w.alloc (.cells c0.toArray t0)).heap.size = w.heap.size + 1 := by simp
  have z2 : ((w.alloc (.cells c0.toArray t0)).alloc (.cells c1.toArray t1)).heap.size = w.heap.size + 2 := by simp
  rw [z1] at h1
  rw [z2] at h2
  exact ⟨blk_alloc (blk_alloc (blk_new w _) _) _, blk_alloc h1 _, h2, (((Below.refl _ w).alloc (Nat.le_refl _) _).alloc (by simp) _).alloc (by simp; omega) _, by simp⟩

/-- An operation that answers a value and leaves the world. -/
theorem armV {P : Program} {w : World} {ops : Array Oper} {rest : List Oper} {o : Oper} {a : Act} {Q : Exit → Act → World → Prop} (X : Op) (hop : o.op = X) (hg : o.guard = none) {v : Value} (hrun : (execOp a.eval o).run P w = .ok (.value v) w) (hK : wpList P ops Q rest (a.put o.dst v) w) : wpList P ops Q (o :: rest) a w := by
  refine BigFrame.wpList_want (by simp [Region.wanted, hg]) fun K hK' => ?_
  unfold Oper.wp
  rw [hrun]
  exact hK' _ _ hK

theorem res2c {P : Program} {fn : Func} {a b : Tmp} {t : TypeId} (h : fn.results = #[.cell a t, .tmp b]) {tmps : Array Value} {R : Addr} (hp : tmps.getD a undef = .pointer (some R)) {v : Value} {w : World} (hl : (loadVar t R).run P w = .ok v w) :
    (results fn tmps).run P w = .ok (.tuple #[v, tmps.getD b undef]) w := by
  rw [Array.getD_eq_getD_getElem?] at hp
  simp [results, h, hp, asAddr, hl]

set_option maxHeartbeats 1000000 in
set_option maxRecDepth 100000 in
theorem Put_any (l : List Int) (n : Int) (a : List Int) (w : World) (hf : FitB l) (hl : l.length = 16) (hb : -9223372036854775808 ≤ n ∧ n ≤ 9223372036854775807) (ha : a.length = 4) (hfa : FitB a) :
    Calls Tryd.prog 9 #[P6 l n, A4L a] w fun e w' => PutPost (putE l n a) w e w' := by
  generalize hQ : (fun e w' => PutPost (putE l n a) w e w') = Q
  have HQ : Hid _ := hQ
  clear hQ
  obtain ⟨a0, a1, a2, a3, rfl⟩ := list4 ha
  have hck := fun W => Check_any l n W hf hl hb
  obtain ⟨hb0, hb1, hb2, hBw, hz⟩ := boxes3 w (cp6 l n) (b8 [a0, a1, a2, a3]) zero16V 25 27 23
  generalize hW : ((w.alloc (.cells (cp6 l n).toArray 25)).alloc (.cells (b8 [a0, a1, a2, a3]).toArray 27)).alloc (.cells zero16V.toArray 23) = W2 at *
  have HL : Hid _ := loadP6 hl (CellsAt.pfx hl hb0).1
  have HC : Hid _ := hck
  have HZ : Hid _ := hz
  clear hck hz
  go_enter Tryd.func9, Tryd.ntmps9
  go_wp2_with ((with_reducible show wpList _ _ _ _ _ _); refine armL (.tmp 2) 25 rfl rfl rfl HL.out ?_)
  refine (HC.out W2).mono ?_
  rintro e w3 ⟨rfl, hB3⟩
  have hz := HZ.out
  have k0 := (hB3.block w.heap.size (by omega)).trans hb0
  have k1 := (hB3.block (w.heap.size + 1) (by omega)).trans hb1
  have k2 := (hB3.block (w.heap.size + 2) (by omega)).trans hb2
  have hBw3 := hBw.trans (hB3.mono (by omega))
  have hz3 : w.heap.size + 3 ≤ w3.heap.size := by have := hB3.size; omega
  clear hW HL HC hb0 hb1 hb2 hBw hB3 hz HZ
  by_cases h0 : chkE l n = 0
  · obtain ⟨g1, g2, g3⟩ := chkE_ok h0
    have hpE : putE l n [a0, a1, a2, a3] = AE6 (putK l (plc n) [a0, a1, a2, a3] 4) 0 := by unfold putE putL; rw [if_pos h0, h0]
    rw [hpE] at HQ
    rw [h0]
    clear hpE h0 g1 g3
    have c16 := (CellsAt.pfx hl k0).2.2
    have HL2 : Hid _ := load6 hl (CellsAt.pfx hl k0).2.1
    obtain ⟨w4, hst, b4, hB4⟩ := box_new Tryd.sizeOf23 w3 zero16V rfl (b8 l) (by rw [b8_length, hl]) (b8_one _)
    have HST : Hid _ := hst
    have m1 := (hB4.block (w.heap.size + 1) (by omega)).trans k1
    have m2 := (hB4.block (w.heap.size + 2) (by omega)).trans k2
    have c164 := (hB4.cell (p := ⟨w.heap.size, 16, none⟩) (by show w.heap.size < w3.heap.size; omega)).trans c16
    have hBw4 := hBw3.trans (hB4.mono (by omega))
    have hpl := fun W => places_any n W g2
    have HPL : Hid _ := hpl
    obtain ⟨p0, p1, p2, p3, hpp, e0, e1, e2, e3⟩ := plc_lt n
    rw [hpp] at HPL HQ
    clear hst hpl hpp k1 k2 k0 hBw3
    go_wp2_with first
      | ((with_reducible show wpList _ _ _ _ _ _); refine armL (.tmp 16) 23 rfl rfl rfl HL2.out ?_)
      | ((with_reducible show wpList _ _ _ _ _ _); refine armS (.tmp 7) (.tmp 17) 23 rfl rfl rfl rfl HST.out ?_)
    have hpl2 : ∀ W, Calls Tryd.prog 28 #[.int .i64 n] W fun e w' => e = .returned (.agg #[.int .i64 (p0 : Nat), .int .i64 (p1 : Nat), .int .i64 (p2 : Nat), .int .i64 (p3 : Nat)]) ∧ Below W.heap.size W w' := HPL.out
    refine (hpl2 w4).mono ?_
    rintro e w5 ⟨rfl, hB5⟩
    have hlt4 : w3.heap.size < w4.heap.size := (Array.getElem?_eq_some_iff.1 b4).1
    have b5 := (hB5.block w3.heap.size hlt4).trans b4
    have n1 := (hB5.block (w.heap.size + 1) (by omega)).trans m1
    have n2 := (hB5.block (w.heap.size + 2) (by omega)).trans m2
    have hBw5 := hBw4.trans (hB5.mono (by omega))
    have hlt5 : w3.heap.size < w5.heap.size := Nat.lt_of_lt_of_le hlt4 hB5.size
    clear hpl2 HPL HST HL2 c16 c164 m1 m2 hBw4 hB5 hB4 b4 hlt4
    go_wp2
    go_loopw [21] (fun i wr => ∃ k : Nat, k ≤ 4 ∧ i = .int .i64 k ∧ wr.heap[w3.heap.size]? = some (.cells (b8 (putK l [p0, p1, p2, p3] [a0, a1, a2, a3] k)).toArray 23) ∧ Only w3.heap.size w5 wr) (fun i _ => 4 - (intOf i).toNat)
    case atStart => exact ⟨0, Nat.zero_le _, rfl, b5, Only.refl _ _⟩
    case round =>
      obtain ⟨k, hk, rfl, hbk, hon⟩ := hrel
      by_cases hlt : k < 4
      · have hkk : k = 0 ∨ k = 1 ∨ k = 2 ∨ k = 3 := by omega
        have ff := blk_open hbk
        have na := ((hon.below (B := w3.heap.size) (Nat.le_refl _)).block (w.heap.size + 1) (by omega)).trans n1
        have hln := putK_length l [p0, p1, p2, p3] [a0, a1, a2, a3] k
        rw [hl] at hln
        rcases hkk with rfl | rfl | rfl | rfl
        · have r1 := blk_cell na (j := 0) rfl
          have r2 : wr.cell? ⟨w3.heap.size, p0, none⟩ = some _ := blk_cell hbk (List.getElem?_eq_getElem (by rw [b8_length, hln]; exact e0))
          generalize (b8 (putK l [p0, p1, p2, p3] [a0, a1, a2, a3] 0))[p0]'(by rw [b8_length, hln]; exact e0) = old at r2
          have hS := blk_set hbk p0 (.int .u8 a0)
          rw [b8_set] at hS
          have HS : Hid _ := hS
          have HO : Hid _ := hon.set p0 (.int .u8 a0)
          have q : ((p0 : Nat) : Int) < 16 := by omega
          clear hS hbk hon na hk hlt n1 n2
          go_wp2_with ((with_reducible show wpList _ _ _ _ _ _); refine armV (Op.index 51 (.tmp 20) (.tmp 21)) rfl rfl (v := .int .i64 (p0 : Nat)) (by kernel_rfl) ?_)
          exact ⟨⟨1, by decide, by simp, HS.out, HO.out⟩, by simp [intOf]⟩
        · have r1 := blk_cell na (j := 1) rfl
          have r2 : wr.cell? ⟨w3.heap.size, p1, none⟩ = some _ := blk_cell hbk (List.getElem?_eq_getElem (by rw [b8_length, hln]; exact e1))
          generalize (b8 (putK l [p0, p1, p2, p3] [a0, a1, a2, a3] 1))[p1]'(by rw [b8_length, hln]; exact e1) = old at r2
          have hS := blk_set hbk p1 (.int .u8 a1)
          rw [b8_set] at hS
          have HS : Hid _ := hS
          have HO : Hid _ := hon.set p1 (.int .u8 a1)
          have q : ((p1 : Nat) : Int) < 16 := by omega
          clear hS hbk hon na hk hlt n1 n2
          go_wp2_with ((with_reducible show wpList _ _ _ _ _ _); refine armV (Op.index 51 (.tmp 20) (.tmp 21)) rfl rfl (v := .int .i64 (p1 : Nat)) (by kernel_rfl) ?_)
          exact ⟨⟨2, by decide, by simp, HS.out, HO.out⟩, by simp [intOf]⟩
        · have r1 := blk_cell na (j := 2) rfl
          have r2 : wr.cell? ⟨w3.heap.size, p2, none⟩ = some _ := blk_cell hbk (List.getElem?_eq_getElem (by rw [b8_length, hln]; exact e2))
          generalize (b8 (putK l [p0, p1, p2, p3] [a0, a1, a2, a3] 2))[p2]'(by rw [b8_length, hln]; exact e2) = old at r2
          have hS := blk_set hbk p2 (.int .u8 a2)
          rw [b8_set] at hS
          have HS : Hid _ := hS
          have HO : Hid _ := hon.set p2 (.int .u8 a2)
          have q : ((p2 : Nat) : Int) < 16 := by omega
          clear hS hbk hon na hk hlt n1 n2
          go_wp2_with ((with_reducible show wpList _ _ _ _ _ _); refine armV (Op.index 51 (.tmp 20) (.tmp 21)) rfl rfl (v := .int .i64 (p2 : Nat)) (by kernel_rfl) ?_)
          exact ⟨⟨3, by decide, by simp, HS.out, HO.out⟩, by simp [intOf]⟩
        · have r1 := blk_cell na (j := 3) rfl
          have r2 : wr.cell? ⟨w3.heap.size, p3, none⟩ = some _ := blk_cell hbk (List.getElem?_eq_getElem (by rw [b8_length, hln]; exact e3))
          generalize (b8 (putK l [p0, p1, p2, p3] [a0, a1, a2, a3] 3))[p3]'(by rw [b8_length, hln]; exact e3) = old at r2
          have hS := blk_set hbk p3 (.int .u8 a3)
          rw [b8_set] at hS
          have HS : Hid _ := hS
          have HO : Hid _ := hon.set p3 (.int .u8 a3)
          have q : ((p3 : Nat) : Int) < 16 := by omega
          clear hS hbk hon na hk hlt n1 n2
          go_wp2_with ((with_reducible show wpList _ _ _ _ _ _); refine armV (Op.index 51 (.tmp 20) (.tmp 21)) rfl rfl (v := .int .i64 (p3 : Nat)) (by kernel_rfl) ?_)
          exact ⟨⟨4, by decide, by simp, HS.out, HO.out⟩, by simp [intOf]⟩
      · obtain rfl : k = 4 := by omega
        have hln := putK_length l [p0, p1, p2, p3] [a0, a1, a2, a3] 4
        rw [hl] at hln
        have hlb : (b8 (putK l [p0, p1, p2, p3] [a0, a1, a2, a3] 4)).length = 16 := by rw [b8_length, hln]
        have hbR := ((hon.below (B := w3.heap.size) (Nat.le_refl _)).block (w.heap.size + 2) (by omega)).trans n2
        have hBR : Below w.heap.size w wr := hBw5.trans (hon.below (by omega))
        have hL := agg_load (t := 23) Tryd.isAgg23 Tryd.sizeOf23 hlb (CellsAt.of_blk hbk)
        obtain ⟨wE, hst, bE, honE⟩ := box_store Tryd.sizeOf23 hbR rfl (b8 (putK l [p0, p1, p2, p3] [a0, a1, a2, a3] 4)) hlb (b8_one _)
        have hlv := agg_loadVar (t := 23) Tryd.isAgg23 Tryd.sizeOf23 hlb (CellsAt.of_blk bE)
        have HBE : Hid (Below w.heap.size w wE) := hBR.trans (honE.below (by omega))
        have HL : Hid _ := hL
        have HSQ : Hid _ := hst
        have HLV : Hid _ := hlv
        clear hL hst hlv bE honE hbR hBR hbk hon
        go_wp2_with first
          | ((with_reducible show wpList _ _ _ _ _ _); refine armL (.tmp 7) 23 rfl rfl rfl HL.out ?_)
          | ((with_reducible show wpList _ _ _ _ _ _); refine armS (.tmp 4) (.tmp 31) 23 rfl rfl rfl rfl HSQ.out ?_)
        refine bodyPost_ret (res2c Tryd.results9 rfl HLV.out) rfl ?_
        rw [← HQ.out]
        exact ⟨rfl, HBE.out⟩
  · have hpE : putE l n [a0, a1, a2, a3] = AE6 zeroA6 (chkE l n) := by unfold putE; rw [if_neg h0]
    rw [hpE] at HQ
    have q0 : (chkE l n != 0) = true := by simpa using h0
    obtain ⟨wE, hst, bE, honE⟩ := box_store Tryd.sizeOf23 k2 rfl zero16V rfl zero16V_one
    have hlv := agg_loadVar (t := 23) Tryd.isAgg23 Tryd.sizeOf23 rfl (CellsAt.of_blk bE)
    have HBE : Hid (Below w.heap.size w wE) := hBw3.trans (honE.below (by omega))
    have HSQ : Hid _ := hst
    have HLV : Hid _ := hlv
    clear hst hlv bE honE k0 k1 k2 hBw3 hpE
    generalize chkE l n = ce at *
    go_wp2_with ((with_reducible show wpList _ _ _ _ _ _); refine armS (.tmp 4) (.tmp 14) 23 rfl rfl rfl rfl HSQ.out ?_)
    refine bodyPost_ret (res2c Tryd.results9 rfl HLV.out) rfl ?_
    rw [← HQ.out]
    exact ⟨rfl, HBE.out⟩

end Go.Proofs.YtfiiopgdgfbkkaaDoor
