/-
  Bits carried from one row to another: what the document's Put and Get do.
  The document's Put.
  Package embed: Pair of both sides.
  Package embed: the document's Pair; the statement EmbedPuts for every argument.
-/
import Derived.Test.YtfiiopgdgfbkkaaDoorQe0
import Derived.Test.YtfiiopgdgfbkkaaDoorQg2
namespace Go.Proofs.YtfiiopgdgfbkkaaDoor
set_option linter.unusedVariables false
set_option linter.unusedSimpArgs false
open Go Go.RowKit

theorem or_one (z : Int) (k : Nat) (hk : k < 8) (h : 0 ≤ z ∧ z < 256) : bits .or .u8 z (2 ^ k) = ((setN z.toNat k 1 : Nat) : Int) := by
  have hp : ∀ j, j < 8 → 2 ^ j < 256 := by decide
  have h1 := u8_or_nat z.toNat (2 ^ k) (by omega) (hp k hk)
  rw [← tab_or k hk _ (by omega), ← h1, Int.toNat_of_nonneg h.1]
  simp

def mvK (dst src : List Int) (d s : Nat → Nat) : Nat → List Int
  | 0 => dst
  | k + 1 => if bitN src (s k) = 1 then setL (mvK dst src d s k) (d k) 1 else mvK dst src d s k
theorem mvK_length (dst src : List Int) (d s : Nat → Nat) (k : Nat) : (mvK dst src d s k).length = dst.length := by
  induction k with
  | zero => rfl
  | succ k ih =>
    unfold mvK
    split
    · rw [setL_length, ih]
    · exact ih
theorem mvK_fit {dst src : List Int} (h : FitB dst) (d s : Nat → Nat) (k : Nat) : FitB (mvK dst src d s k) := by
  induction k with
  | zero => exact h
  | succ k ih =>
    unfold mvK
    split
    · exact setL_fit ih _ _ (by decide)
    · exact ih

theorem mvK_bits {dst src : List Int} (hd : FitB dst) {d s : Nat → Nat} {K : Nat} (hlt : ∀ i, i < K → d i < 8 * dst.length) (hinj : ∀ i j, i < K → j < K → d i = d j → i = j) (h0 : ∀ i, i < K → bitN dst (d i) = 0) :
    ∀ k, k ≤ K → (∀ i, i < k → bitN (mvK dst src d s k) (d i) = bitN src (s i)) ∧ (∀ q, (∀ i, i < k → d i ≠ q) → bitN (mvK dst src d s k) q = bitN dst q) := by
  intro k
  induction k with
  | zero => exact fun _ => ⟨fun i hi => absurd hi (by omega), fun q _ => rfl⟩
  | succ k ih =>
    intro hk
    obtain ⟨hA, hB⟩ := ih (by omega)
    have hf := mvK_fit (src := src) hd d s k
    have hl := mvK_length dst src d s k
    have hdk : d k < 8 * (mvK dst src d s k).length := by rw [hl]; exact hlt k (by omega)
    have hkz : bitN (mvK dst src d s k) (d k) = 0 := by
      rw [hB (d k) (fun i hi e => by have := hinj i k (by omega) (by omega) e; omega)]
      exact h0 k (by omega)
    have hb2 := bitN_lt src (s k)
    refine ⟨fun i hi => ?_, fun q hq => ?_⟩
    · unfold mvK
      split
      · rename_i h1
        rw [bitN_setL hf _ _ _ (by decide) hdk]
        by_cases c : i = k
        · subst c; rw [if_pos rfl, h1]
        · rw [if_neg (fun e => c (hinj i k (by omega) (by omega) e)), hA i (by omega)]
      · rename_i h1
        by_cases c : i = k
        · subst c; rw [hkz]; omega
        · exact hA i (by omega)
    · unfold mvK
      split
      · rw [bitN_setL hf _ _ _ (by decide) hdk, if_neg (fun e => hq k (by omega) e.symm)]
        exact hB q (fun i hi => hq i (by omega))
      · exact hB q (fun i hi => hq i (by omega))

/-- At which bit of the IPv6 address the i-th of the IPv4 one stands. -/
def plN (n i : Nat) : Nat := if n ≤ 64 ∧ 64 ≤ n + i then n + i + 8 else n + i

/-- What is known of places, for each length. -/
structure Plc (n : Nat) : Prop where
  lt : ∀ i, i < 32 → plN n i < 128
  inj : ∀ i, i < 32 → ∀ j, j < 32 → plN n i = plN n j → i = j
  byte : ∀ i, i < 32 → plN n i / 8 = (plc n).getD (i / 8) 0 ∧ plN n i % 8 = i % 8
  back : ∀ q, q < 128 → q / 8 ∈ plc n → ∃ i, i < 32 ∧ plN n i = q
  low : ∀ i, i < 32 → n ≤ plN n i
theorem plc_all {n : Nat} (h : lenOk n = true) : Plc n := by
  rcases lenOk_six h with h | h | h | h | h | h
  · obtain rfl : n = 32 := by omega
    exact ⟨by decide, by decide, by decide, by decide +kernel, by decide⟩
  · obtain rfl : n = 40 := by omega
    exact ⟨by decide, by decide, by decide, by decide +kernel, by decide⟩
  · obtain rfl : n = 48 := by omega
    exact ⟨by decide, by decide, by decide, by decide +kernel, by decide⟩
  · obtain rfl : n = 56 := by omega
    exact ⟨by decide, by decide, by decide, by decide +kernel, by decide⟩
  · obtain rfl : n = 64 := by omega
    exact ⟨by decide, by decide, by decide, by decide +kernel, by decide⟩
  · obtain rfl : n = 96 := by omega
    exact ⟨by decide, by decide, by decide, by decide +kernel, by decide⟩

theorem bitN_getL {x : List Int} {n : Nat} (P : Plc n) (i : Nat) (hi : i < 32) : bitN (getL x (plc n)) i = bitN x (plN n i) := by
  obtain ⟨h1, h2⟩ := P.byte i hi
  obtain ⟨p0, p1, p2, p3, hpp, _⟩ := plc_lt (n : Int)
  unfold bitN
  rw [h1, h2, hpp]
  have hj : i / 8 = 0 ∨ i / 8 = 1 ∨ i / 8 = 2 ∨ i / 8 = 3 := by omega
  rcases hj with h | h | h | h <;> rw [h] <;> simp [getL, List.getD_eq_getElem?_getD]

theorem get_moved {x : List Int} {n : Nat} (P : Plc n) (hf : FitB x) : mvK zeroA4 x (fun i => i) (plN n) 32 = getL x (plc n) := by
  have hz : FitB zeroA4 := by intro z hz; simp at hz; subst hz; decide
  obtain ⟨hA, _⟩ := mvK_bits (src := x) (s := plN n) hz (d := fun i => i) (K := 32) (fun i hi => by simpa using hi) (fun i j _ _ e => e) (fun i hi => bitN_zero 4 i) 32 (Nat.le_refl _)
  refine row_ext (by rw [mvK_length, getL_len]; rfl) (mvK_fit hz _ _ _) (getL_fit hf _) fun p hp => ?_
  rw [mvK_length] at hp
  have hp' : p < 32 := by simpa using hp
  exact (hA p hp').trans (bitN_getL P p hp').symm

theorem putK_other {l a : List Int} {ps : List Nat} {q : Nat} (h : ∀ i, i < 4 → ps.getD i 0 ≠ q) : (putK l ps a 4)[q]? = l[q]? := by
  have e : putK l ps a 4 = (((l.set (ps.getD 0 0) (a.getD 0 0)).set (ps.getD 1 0) (a.getD 1 0)).set (ps.getD 2 0) (a.getD 2 0)).set (ps.getD 3 0) (a.getD 3 0) := rfl
  rw [e, List.getElem?_set_ne (h 3 (by decide)), List.getElem?_set_ne (h 2 (by decide)), List.getElem?_set_ne (h 1 (by decide)), List.getElem?_set_ne (h 0 (by decide))]

theorem put_moved {l a : List Int} {n : Nat} (hl : l.length = 16) (hf : FitB l) (h : chkE l n = 0) (ha : a.length = 4) (hfa : FitB a) : mvK l a (plN n) (fun i => i) 32 = putL l n a := by
  obtain ⟨h1, h2, h3⟩ := chkE_ok h
  have P := plc_all h2
  have hb : l = blR n l := by
    unfold okP6 at h1
    simp only [Bool.and_eq_true, decide_eq_true_eq] at h1
    exact h1.2
  have E := emb_any hl hf h ha hfa
  have hput : (putL l n a).length = 16 := by unfold putL; rw [putK_length, hl]
  obtain ⟨hA, hB⟩ := mvK_bits (src := a) (s := fun i => i) hf (d := plN n) (K := 32) (fun i hi => by have := P.lt i hi; omega) (fun i j hi hj e => P.inj i hi j hj e) (fun i hi => by
    rw [hb, bitN_blR hf n _ (by have := P.lt i hi; omega), if_neg (by have := P.low i hi; omega)]) 32 (Nat.le_refl _)
  refine row_ext (by rw [mvK_length, hput, hl]) (mvK_fit hf _ _ _) (putK_fit hf hfa _ _) fun q hq => ?_
  rw [mvK_length, hl] at hq
  by_cases c : ∃ i, i < 32 ∧ plN n i = q
  · obtain ⟨i, hi, rfl⟩ := c
    rw [hA i hi, ← bitN_getL P i hi, E.got]
  · rw [hB q (fun i hi e => c ⟨i, hi, e⟩)]
    have hno : ∀ i, i < 4 → (plc n).getD i 0 ≠ q / 8 := fun i hi e => by
      refine c (P.back q (by omega) ?_)
      rw [← e]
      obtain ⟨p0, p1, p2, p3, hpp, _⟩ := plc_lt (n : Int)
      rw [hpp]
      have hj : i = 0 ∨ i = 1 ∨ i = 2 ∨ i = 3 := by omega
      rcases hj with h | h | h | h <;> rw [h] <;> simp
    unfold bitN putL
    rw [putK_other hno]

end Go.Proofs.YtfiiopgdgfbkkaaDoor

namespace Go.Proofs.YtfiiopgdgfbkkaaDoor
set_option linter.unusedVariables false
set_option linter.unusedSimpArgs false
open Go Go.RowKit

set_option maxHeartbeats 2000000 in
set_option maxRecDepth 100000 in
theorem RPut_any (l : List Int) (n : Int) (a : List Int) (w : World) (hf : FitB l) (hl : l.length = 16) (hb : -9223372036854775808 ≤ n ∧ n ≤ 9223372036854775807) (ha : a.length = 4) (hfa : FitB a) :
    Calls Tryd.prog 10 #[P6 l n, A4L a] w fun e w' => PutPost (putE l n a) w e w' := by
  generalize hQ : (fun e w' => PutPost (putE l n a) w e w') = Q
  have HQ : Hid _ := hQ
  clear hQ
  obtain ⟨a0, a1, a2, a3, rfl⟩ := list4 ha
  have hck := fun W => RCheckE_any l n W hf hl hb
  obtain ⟨hb0, hb1, hb2, hBw, hz⟩ := boxes3 w (cp6 l n) (b8 [a0, a1, a2, a3]) zero16V 25 27 23
  generalize hW : ((w.alloc (.cells (cp6 l n).toArray 25)).alloc (.cells (b8 [a0, a1, a2, a3]).toArray 27)).alloc (.cells zero16V.toArray 23) = W2 at *
  have HL : Hid _ := loadP6 hl (CellsAt.pfx hl hb0).1
  have HC : Hid _ := hck
  have HZ : Hid _ := hz
  clear hck hz
  go_enter Tryd.func10, Tryd.ntmps10
  go_wp2_with ((with_reducible show wpList _ _ _ _ _ _); refine armL (.tmp 2) 25 rfl rfl rfl HL.out ?_)
  refine (HC.out W2).mono ?_
  rintro e w3 ⟨rfl, hB3⟩
  have hz := HZ.out
  have k0 := (hB3.block w.heap.size (by omega)).trans hb0
  have k1 := (hB3.block (w.heap.size + 1) (by omega)).trans hb1
  have k2 := (hB3.block (w.heap.size + 2) (by omega)).trans hb2
  have hBw3 := hBw.trans (hB3.mono (by omega))
  have hz3 : w.heap.size + 3 ≤ w3.heap.size := by have := hB3.size; omega
  clear hW HL HC hb0 hb1 hb2 hBw hB3 hz HZ
  by_cases h0 : chkE l n = 0
  · obtain ⟨g1, g2, g3⟩ := chkE_ok h0
    have hpE : putE l n [a0, a1, a2, a3] = AE6 (putL l n [a0, a1, a2, a3]) 0 := by unfold putE; rw [if_pos h0, h0]
    rw [hpE] at HQ
    rw [h0]
    obtain ⟨N, hN⟩ : ∃ N : Nat, n = (N : Int) := ⟨n.toNat, by have := lenOk_six g2; omega⟩
    subst hN
    have hmv := put_moved hl hf h0 ha hfa
    have hPl := plc_all g2
    have hn128 : N ≤ 96 := by have := lenOk_six g2; omega
    rw [← hmv] at HQ
    have hfa' := hfa
    clear hpE h0 g1 g3 g2 hmv
    have c16 := (CellsAt.pfx hl k0).2.2
    have HL2 : Hid _ := load6 hl (CellsAt.pfx hl k0).2.1
    obtain ⟨w4, hst, b4, hB4⟩ := box_new Tryd.sizeOf23 w3 zero16V rfl (b8 l) (by rw [b8_length, hl]) (b8_one _)
    have HST : Hid _ := hst
    have m1 := (hB4.block (w.heap.size + 1) (by omega)).trans k1
    have m2 := (hB4.block (w.heap.size + 2) (by omega)).trans k2
    have c164 := (hB4.cell (p := ⟨w.heap.size, 16, none⟩) (by show w.heap.size < w3.heap.size; omega)).trans c16
    have hBw4 := hBw3.trans (hB4.mono (by omega))
    have hlt4 : w3.heap.size < w4.heap.size := (Array.getElem?_eq_some_iff.1 b4).1
    have G4 : OwnG w4 w3.heap.size l := OwnG.of_blk b4
    clear hst k1 k2 k0 hBw3
    go_wp2_with first
      | ((with_reducible show wpList _ _ _ _ _ _); refine armL (.tmp 16) 23 rfl rfl rfl HL2.out ?_)
      | ((with_reducible show wpList _ _ _ _ _ _); refine armS (.tmp 7) (.tmp 17) 23 rfl rfl rfl rfl HST.out ?_)
    generalize hA : [a0, a1, a2, a3] = A at *
    have HAA : Hid _ := hA
    clear HST HL2 hA
    go_loopw [8] (fun i wr => ∃ k : Nat, k ≤ 32 ∧ i = .int .i64 k ∧ OwnG wr w3.heap.size (mvK l A (plN N) (fun i => i) k) ∧ Only w3.heap.size w4 wr) (fun i _ => 32 - (intOf i).toNat)
    case atStart => exact ⟨0, Nat.zero_le _, rfl, G4, Only.refl _ _⟩
    case round =>
      obtain ⟨k, hk, rfl, ho, hon⟩ := hrel
      by_cases hlt : k < 32
      · have na := ((hon.below (B := w3.heap.size) (Nat.le_refl _)).block (w.heap.size + 1) (by omega)).trans m1
        have hga : OwnG wr (w.heap.size + 1) A := OwnG.of_blk na
        have hcc := hga.cell (k / 8) (by omega)
        have c16r := ((hon.below (B := w3.heap.size) (Nat.le_refl _)).cell (p := ⟨w.heap.size, 16, none⟩) (by show w.heap.size < w3.heap.size; omega)).trans c164
        have hfit := fit_at hfa (k / 8)
        have hbit := lbit_u8 (A[k / 8]?.getD 0) (7 - k % 8) hfit.1 hfit.2
        have hbn : bitN A k = bk (A[k / 8]?.getD 0).toNat (7 - k % 8) := rfl
        have hb2 := bitN_lt A k
        rw [← hbn] at hbit
        have hm : mvK l A (plN N) (fun i => i) (k + 1) = if bitN A k = 1 then setL (mvK l A (plN N) (fun i => i) k) (plN N k) 1 else mvK l A (plN N) (fun i => i) k := rfl
        have hmf := mvK_fit (src := A) hf (plN N) (fun i => i) k
        have hml := mvK_length l A (plN N) (fun i => i) k
        rw [hl] at hml
        have hpl128 := hPl.lt k hlt
        have hpc := place_ref (N : Int) (k : Int) wr (by omega) (by omega)
        have hpe : (if (N : Int) ≤ 64 ∧ 64 ≤ (N : Int) + k then (N : Int) + k + 8 else (N : Int) + k) = ((plN N k : Nat) : Int) := by
          unfold plN
          by_cases c : N ≤ 64 ∧ 64 ≤ N + k
          · rw [if_pos (by omega), if_pos c]; omega
          · rw [if_neg (by omega), if_neg c]; omega
        rw [hpe] at hpc
        have HPC : Hid _ := hpc
        clear hpc hpe na hga hbn
        generalize A[k / 8]?.getD 0 = z at *
        have hbb : bitN A k = 0 ∨ bitN A k = 1 := by omega
        rcases hbb with hb0 | hb1
        · rw [hb0, if_neg (by decide)] at hm
          rw [hb0] at hbit
          rw [← hm] at ho
          have HO : Hid _ := ho
          clear ho hm hb0 hb2 HPC hmf hml
          go_wp2
          exact ⟨⟨k + 1, by omega, by simp, ⟨HO.out.typed, HO.out.cell⟩, hon⟩, by simp [intOf]; omega⟩
        · rw [hb1, if_pos rfl] at hm
          rw [hb1] at hbit
          generalize hy : mvK l A (plN N) (fun i => i) (k + 1) = y at *
          have HY : Hid _ := hy
          clear hy
          generalize mvK l A (plN N) (fun i => i) k = x at *
          have hset : y = x.set (plN N k / 8) ((setN (x[plN N k / 8]?.getD 0).toNat (7 - plN N k % 8) 1 : Nat) : Int) := hm
          generalize plN N k = K at *
          have hfx := fit_at hmf (K / 8)
          have hcx := ho.cell (K / 8) (by omega)
          have hop := ho.open (K / 8)
          have hos := ho.set (K / 8) (by omega)
          have han := or_one (x[K / 8]?.getD 0) (7 - K % 8) (by omega) hfx
          have hwr := wrap_u8 (7 - K % 8) (by omega)
          have h256 := pow256 (7 - K % 8) (by omega)
          generalize x[K / 8]?.getD 0 = zx at *
          generalize setN zx.toNat (7 - K % 8) 1 = sx at *
          have HS : Hid _ := hset
          have HO : Hid _ := hos
          have HON : Hid _ := hon
          clear hset hos hm hmf hml ho hb1 hb2 hon
          go_wp2_with fail
          refine Calls.mono HPC.out ?_
          rintro e w9 ⟨rfl, rfl⟩
          go_wp2
          go_region
          go_wp2
          refine ⟨⟨k + 1, by omega, by simp, ?_, (HON.out.set _ _).drew⟩, by simp [intOf]; omega⟩
          rw [HY.out, HS.out]
          have ho2 := HO.out (sx : Int)
          exact ⟨ho2.typed, ho2.cell⟩
      · obtain rfl : k = 32 := by omega
        have hln := mvK_length l A (plN N) (fun i => i) 32
        rw [hl] at hln
        have hbR := ((hon.below (B := w3.heap.size) (Nat.le_refl _)).block (w.heap.size + 2) (by omega)).trans m2
        have hBR : Below w.heap.size w wr := hBw4.trans (hon.below (by omega))
        have hL := load6 hln ho.cells
        obtain ⟨wE, hst, bE, honE⟩ := box_store Tryd.sizeOf23 hbR rfl (b8 (mvK l A (plN N) (fun i => i) 32)) (by rw [b8_length, hln]) (b8_one _)
        have hlv := agg_loadVar (t := 23) Tryd.isAgg23 Tryd.sizeOf23 (by rw [b8_length, hln]) (CellsAt.of_blk bE)
        have HBE : Hid (Below w.heap.size w wE) := hBR.trans (honE.below (by omega))
        have HL : Hid _ := hL
        have HSQ : Hid _ := hst
        have HLV : Hid _ := hlv
        clear hL hst hlv bE honE hbR hBR ho hon
        generalize mvK l A (plN N) (fun i => i) 32 = y at *
        go_wp2_with first
          | ((with_reducible show wpList _ _ _ _ _ _); refine armL (.tmp 7) 23 rfl rfl rfl HL.out ?_)
          | ((with_reducible show wpList _ _ _ _ _ _); refine armS (.tmp 4) (.tmp 48) 23 rfl rfl rfl rfl HSQ.out ?_)
        refine bodyPost_ret (res2c Tryd.results10 rfl HLV.out) rfl ?_
        rw [← HQ.out]
        exact ⟨rfl, HBE.out⟩
  · have hpE : putE l n [a0, a1, a2, a3] = AE6 zeroA6 (chkE l n) := by unfold putE; rw [if_neg h0]
    rw [hpE] at HQ
    have q0 : (chkE l n != 0) = true := by simpa using h0
    obtain ⟨wE, hst, bE, honE⟩ := box_store Tryd.sizeOf23 k2 rfl zero16V rfl zero16V_one
    have hlv := agg_loadVar (t := 23) Tryd.isAgg23 Tryd.sizeOf23 rfl (CellsAt.of_blk bE)
    have HBE : Hid (Below w.heap.size w wE) := hBw3.trans (honE.below (by omega))
    have HSQ : Hid _ := hst
    have HLV : Hid _ := hlv
    clear hst hlv bE honE k0 k1 k2 hBw3 hpE
    generalize chkE l n = ce at *
    go_wp2_with ((with_reducible show wpList _ _ _ _ _ _); refine armS (.tmp 4) (.tmp 14) 23 rfl rfl rfl rfl HSQ.out ?_)
    refine bodyPost_ret (res2c Tryd.results10 rfl HLV.out) rfl ?_
    rw [← HQ.out]
    exact ⟨rfl, HBE.out⟩

end Go.Proofs.YtfiiopgdgfbkkaaDoor

namespace Go.Proofs.YtfiiopgdgfbkkaaDoor
open Go Go.RowKit Go.ChangeShapes Go.WideShapes Go.ChangeAt
set_option linter.unusedVariables false
set_option linter.unusedSimpArgs false

theorem boxes5 (w : World) (c0 c1 c2 c3 c4 : List Value) (t0 t1 t2 t3 t4 : TypeId) :
    (((((w.alloc (.cells c0.toArray t0)).alloc (.cells c1.toArray t1)).alloc (.cells c2.toArray t2)).alloc (.cells c3.toArray t3)).alloc (.cells c4.toArray t4)).heap[w.heap.size]? = some (.cells c0.toArray t0) ∧
    (((((w.alloc (.cells c0.toArray t0)).alloc (.cells c1.toArray t1)).alloc (.cells c2.toArray t2)).alloc (.cells c3.toArray t3)).alloc (.cells c4.toArray t4)).heap[w.heap.size + 1]? = some (.cells c1.toArray t1) ∧
    (((((w.alloc (.cells c0.toArray t0)).alloc (.cells c1.toArray t1)).alloc (.cells c2.toArray t2)).alloc (.cells c3.toArray t3)).alloc (.cells c4.toArray t4)).heap[w.heap.size + 2]? = some (.cells c2.toArray t2) ∧
    (((((w.alloc (.cells c0.toArray t0)).alloc (.cells c1.toArray t1)).alloc (.cells c2.toArray t2)).alloc (.cells c3.toArray t3)).alloc (.cells c4.toArray t4)).heap[w.heap.size + 3]? = some (.cells c3.toArray t3) ∧
    (((((w.alloc (.cells c0.toArray t0)).alloc (.cells c1.toArray t1)).alloc (.cells c2.toArray t2)).alloc (.cells c3.toArray t3)).alloc (.cells c4.toArray t4)).heap[w.heap.size + 4]? = some (.cells c4.toArray t4) ∧
    Below w.heap.size w (((((w.alloc (.cells c0.toArray t0)).alloc (.cells c1.toArray t1)).alloc (.cells c2.toArray t2)).alloc (.cells c3.toArray t3)).alloc (.cells c4.toArray t4)) ∧
    (((((w.alloc (.cells c0.toArray t0)).alloc (.cells c1.toArray t1)).alloc (.cells c2.toArray t2)).alloc (.cells c3.toArray t3)).alloc (.cells c4.toArray t4)).heap.size = w.heap.size + 5 := by
  obtain ⟨h0, h1, h2, hB, hz⟩ := boxes3 w c0 c1 c2 t0 t1 t2
  have h3 := blk_new (((w.alloc (.cells c0.toArray t0)).alloc (.cells c1.toArray t1)).alloc (.cells c2.toArray t2)) (.cells c3.toArray t3)
  rw [hz] at h3
  have hB3 := hB.alloc hB.size (.cells c3.toArray t3)
  have hz3 : ((((w.alloc (.cells c0.toArray t0)).alloc (.cells c1.toArray t1)).alloc (.cells c2.toArray t2)).alloc (.cells c3.toArray t3)).heap.size = w.heap.size + 4 := by simp
  have h4 := blk_new ((((w.alloc (.cells c0.toArray t0)).alloc (.cells c1.toArray t1)).alloc (.cells c2.toArray t2)).alloc (.cells c3.toArray t3)) (.cells c4.toArray t4)
  rw [hz3] at h4
  exact ⟨blk_alloc (blk_alloc h0 _) _, blk_alloc (blk_alloc h1 _) _, blk_alloc (blk_alloc h2 _) _, blk_alloc h3 _, h4, hB3.alloc hB3.size _, by simp⟩

theorem res3cc {P : Program} {fn : Func} {a b c : Tmp} {t u : TypeId} (h : fn.results = #[.cell a t, .cell b u, .tmp c]) {tmps : Array Value} {R S : Addr} (hp : tmps.getD a undef = .pointer (some R)) (hq : tmps.getD b undef = .pointer (some S)) {v x : Value} {w : World} (hl : (loadVar t R).run P w = .ok v w) (hm : (loadVar u S).run P w = .ok x w) :
    (results fn tmps).run P w = .ok (.tuple #[v, x, tmps.getD c undef]) w := by
  rw [Array.getD_eq_getD_getElem?] at hp hq
  simp [results, h, hp, hq, asAddr, hl, hm]

def knownB (l : List Int) (n : Int) : Bool := decide (l = kP2A) && (n == 96)
def pairErr (l : List Int) (n : Int) (a b : List Int) : Int := if chkE l n ≠ 0 then chkE l n else if knownB l n && !(globB a && globB b) then 83 else 0
def pairV (x y : List Int) (e : Int) : Value := .tuple #[A6 x, A6 y, .int .i64 e]
def pairE (l : List Int) (n : Int) (a b : List Int) : Value := pairV (if pairErr l n a b = 0 then putL l n a else zeroA6) (if pairErr l n a b = 0 then putL l n b else zeroA6) (pairErr l n a b)

/-- Two boxes are filled, one behind the other. -/
theorem two_stores {w W : World} {R : Nat} {x y : List Int} (hx : x.length = 16) (hy : y.length = 16) (b3 : W.heap[R]? = some (.cells zero16V.toArray 23)) (b4 : W.heap[R + 1]? = some (.cells zero16V.toArray 23)) (hB : Below w.heap.size w W) (hR : w.heap.size ≤ R) :
    ∃ V1 V2, (Instr.storeAt 23 (.pointer (some ⟨R, 0, none⟩)) (A6 x)).run Tryd.prog W = .ok () V1 ∧ (Instr.storeAt 23 (.pointer (some ⟨R + 1, 0, none⟩)) (A6 y)).run Tryd.prog V1 = .ok () V2 ∧
      (loadVar 23 ⟨R, 0, none⟩).run Tryd.prog V2 = .ok (A6 x) V2 ∧ (loadVar 23 ⟨R + 1, 0, none⟩).run Tryd.prog V2 = .ok (A6 y) V2 ∧ Below w.heap.size w V2 ∧ Only R W V1 ∧ Only (R + 1) V1 V2 := by
  obtain ⟨V1, h1, c1, o1⟩ := box_store Tryd.sizeOf23 b3 rfl (u8s x) (by rw [u8s_length, hx]) (u8s_one _)
  have b4' := (o1.other (R + 1) (by omega)).trans b4
  obtain ⟨V2, h2, c2, o2⟩ := box_store Tryd.sizeOf23 b4' rfl (u8s y) (by rw [u8s_length, hy]) (u8s_one _)
  have c1' := (o2.other R (by omega)).trans c1
  exact ⟨V1, V2, h1, h2, agg_loadVar Tryd.isAgg23 Tryd.sizeOf23 (by rw [u8s_length, hx]) (CellsAt.of_blk c1'), agg_loadVar Tryd.isAgg23 Tryd.sizeOf23 (by rw [u8s_length, hy]) (CellsAt.of_blk c2), (hB.trans (o1.below hR)).trans (o2.below (by omega)), o1, o2⟩

theorem eqlP6_known (l : List Int) (n : Int) (hf : FitB l) (hl : l.length = 16) (W : World) : (binOp .eql 25 (P6 l n) (P6 kP2A 96)).run Tryd.prog W = .ok (.bool (knownB l n)) W :=
  eqlP6 l kP2A n 96 hf (fit_of (by decide)) hl rfl W

set_option maxHeartbeats 6000000 in
set_option maxRecDepth 100000 in
theorem Pair_any (l a b : List Int) (n : Int) (w : World) (hsp : Spc w) (hl : l.length = 16) (hf : FitB l) (hn : -9223372036854775808 ≤ n ∧ n ≤ 9223372036854775807) (ha : a.length = 4) (fa : FitB a) (hb : b.length = 4) (fb : FitB b) :
    Calls Tryd.prog 11 #[P6 l n, A4L a, A4L b] w fun e w' => PutPost (pairE l n a b) w e w' := by
  generalize hQ : (fun e w' => PutPost (pairE l n a b) w e w') = Q
  have HQ : Hid _ := hQ
  clear hQ
  obtain ⟨hb0, hb1, hb2, hb3, hb4, hBw, hz⟩ := boxes5 w (cp6 l n) (b8 a) (b8 b) zero16V zero16V 25 27 27 23 23
  generalize hW : ((((w.alloc (.cells (cp6 l n).toArray 25)).alloc (.cells (b8 a).toArray 27)).alloc (.cells (b8 b).toArray 27)).alloc (.cells zero16V.toArray 23)).alloc (.cells zero16V.toArray 23) = W2 at *
  have HLP : Hid _ := loadP6 hl (CellsAt.pfx hl hb0).1
  have HZ : Hid _ := hz
  have hsp2 := hsp.on hBw
  have HPA : Hid _ := fun W => Put_any l n a W hf hl hn ha fa
  have HPB : Hid _ := fun W => Put_any l n b W hf hl hn hb fb
  have HLA : Hid _ := agg_load (t := 27) Tryd.isAgg27 Tryd.sizeOf27 (vs := b8 a) (by rw [b8_length, ha]) (CellsAt.of_blk hb1)
  clear hz hsp
  go_enter Tryd.func11, Tryd.ntmps11
  go_wp2_with first
    | ((with_reducible show wpList _ _ _ _ _ _); refine armL (.tmp 3) 25 rfl rfl rfl HLP.out ?_)
    | ((with_reducible show wpList _ _ _ _ _ _); refine armL (.tmp 4) 27 rfl rfl rfl HLA.out ?_)
  refine (HPA.out W2).mono ?_
  rintro e w3 ⟨rfl, hB3⟩
  have hz := HZ.out
  unfold putE AE6
  have hAl : (if chkE l n = 0 then putL l n a else zeroA6).length = 16 := by
    split
    · unfold putL; rw [putK_length, hl]
    · rfl
  obtain ⟨xx, hxx⟩ : ∃ xx, xx = if chkE l n = 0 then putL l n a else zeroA6 := ⟨_, rfl⟩
  obtain ⟨ce, hce⟩ : ∃ ce, ce = chkE l n := ⟨_, rfl⟩
  rw [← hxx] at hAl
  rw [← hxx, ← hce]
  have HXX : Hid _ := hxx
  have HCE : Hid _ := hce
  clear hxx hce
  obtain ⟨w4, hst4, b4, hB4⟩ := box_new Tryd.sizeOf23 w3 zero16V rfl (u8s xx) (by rw [u8s_length, hAl]) (u8s_one _)
  have HS4 : Hid _ := hst4
  have hB24 := hB3.trans (hB4.mono hB3.size)
  have m0 := (hB24.block w.heap.size (by omega)).trans hb0
  have m1 := (hB24.block (w.heap.size + 1) (by omega)).trans hb1
  have m2 := (hB24.block (w.heap.size + 2) (by omega)).trans hb2
  have m3 := (hB24.block (w.heap.size + 3) (by omega)).trans hb3
  have m4 := (hB24.block (w.heap.size + 4) (by omega)).trans hb4
  have hBw4 := hBw.trans (hB24.mono (by omega))
  have hz4 : w.heap.size + 5 ≤ w4.heap.size := by have := hB24.size; omega
  have hlt4 : w3.heap.size < w4.heap.size := (Array.getElem?_eq_some_iff.1 b4).1
  have hs3 : w.heap.size + 5 ≤ w3.heap.size := by have := hB3.size; omega
  have hsp4 := hsp2.on hB24
  clear hst4 HLP HLA HPA hW hb0 hb1 hb2 hb3 hb4 hBw hB3 hB4 hB24 hz HZ hsp2
  by_cases h0 : chkE l n = 0
  · have e1 : xx = putL l n a := HXX.out.trans (if_pos h0)
    have e2 : ce = 0 := HCE.out.trans h0
    clear HXX HCE
    subst e1 e2
    have hpe : putE l n b = AE6 (putL l n b) 0 := by unfold putE; rw [if_pos h0, h0]
    rw [hpe] at HPB
    have hyl : (putL l n b).length = 16 := by unfold putL; rw [putK_length, hl]
    have hxl : (putL l n a).length = 16 := hAl
    have HPE : Hid (pairE l n a b = if (knownB l n && !(globB a && globB b)) = true then pairV zeroA6 zeroA6 83 else pairV (putL l n a) (putL l n b) 0) := by
      have e : pairErr l n a b = if (knownB l n && !(globB a && globB b)) = true then 83 else 0 := by unfold pairErr; rw [if_neg (by simpa using h0)]
      unfold pairE
      rw [e]
      split <;> rfl
    have G1 : Hid (∀ y : Hi w4, Calls Tryd.prog 20 #[A4L a] y.W fun e w' => e = .returned (.bool (globB a)) ∧ Below y.W.heap.size y.W w') := fun y => Global_any a y.W (hsp4.on y.below) ha fa
    have G2 : Hid (∀ y : Hi w4, Calls Tryd.prog 20 #[A4L b] y.W fun e w' => e = .returned (.bool (globB b)) ∧ Below y.W.heap.size y.W w') := fun y => Global_any b y.W (hsp4.on y.below) hb fb
    have K1 : Hid (∀ y : Hi w4, Calls Tryd.prog 22 #[] y.W fun e w' => e = .returned (P6 kP2A 96) ∧ Below y.W.heap.size y.W w') := fun y => Known_any y.W
    have L3 : Hid (∀ y : Hi w4, (Instr.loadAt 25 (.pointer (some ⟨w.heap.size, 0, none⟩))).run Tryd.prog y.W = .ok (P6 l n) y.W) := fun y => loadP6 hl (CellsAt.pfx hl (Hi.blk m0 y)).1
    have L4 : Hid (∀ y : Hi w4, (Instr.loadAt 27 (.pointer (some ⟨w.heap.size + 1, 0, none⟩))).run Tryd.prog y.W = .ok (A4L a) y.W) := fun y => agg_load Tryd.isAgg27 Tryd.sizeOf27 (by rw [b8_length, ha]) (CellsAt.of_blk (Hi.blk m1 y))
    have L5 : Hid (∀ y : Hi w4, (Instr.loadAt 27 (.pointer (some ⟨w.heap.size + 1 + 1, 0, none⟩))).run Tryd.prog y.W = .ok (A4L b) y.W) := fun y => agg_load Tryd.isAgg27 Tryd.sizeOf27 (by rw [b8_length, hb]) (CellsAt.of_blk (Hi.blk m2 y))
    have EQ : Hid _ := fun W => eqlP6_known l n hf hl W
    clear hpe h0 hsp4 hAl
    generalize putL l n a = x at *
    generalize putL l n b = y at *
    generalize globB a = ga at *
    generalize globB b = gb at *
    generalize knownB l n = kn at *
    have hcases : (kn = false ∧ True ∧ True) ∨ (kn = true ∧ ga = false ∧ True) ∨ (kn = true ∧ ga = true ∧ gb = false) ∨ (kn = true ∧ ga = true ∧ gb = true) := by cases kn <;> cases ga <;> cases gb <;> simp
    have HCA : Hid _ := hcases
    clear hcases
    go_wp2_with ((with_reducible show wpList _ _ _ _ _ _); refine armS (.tmp 9) (.tmp 17) 23 rfl rfl rfl rfl HS4.out ?_)
    have hcases := HCA.out
    clear HCA
    rcases hcases with h | h | h | h
    all_goals
      obtain ⟨h1, h2, h3⟩ := h
      subst h1
      try subst h2
      try subst h3
      refine wp_region_hi (by kernel_rfl) (by kernel_rfl) ?_
      repeat (first
        | go_big_quiet_skip
        | (go_big_quiet_want; refine hi_load (.tmp 3) 25 rfl rfl L3.out ?_; simp only [Act.put, List.setIfInBounds_toArray, List.set_cons_zero, List.set_cons_succ]; go_big_quiet_on)
        | (go_big_quiet_want; refine hi_load (.tmp 4) 27 rfl rfl L4.out ?_; simp only [Act.put, List.setIfInBounds_toArray, List.set_cons_zero, List.set_cons_succ]; go_big_quiet_on)
        | (go_big_quiet_want; refine hi_load (.tmp 5) 27 rfl rfl L5.out ?_; simp only [Act.put, List.setIfInBounds_toArray, List.set_cons_zero, List.set_cons_succ]; go_big_quiet_on)
        | (go_big_quiet_want; refine hi_bin8 .eql 25 25 (.tmp 24) (.tmp 25) rfl rfl rfl (fun W => gdP6 _ _ _ _ _ W) EQ.out ?_; simp only [Act.put, List.setIfInBounds_toArray, List.set_cons_zero, List.set_cons_succ]; go_big_quiet_on)
        | (go_big_quiet_want; go_big_quiet_op; first | go_big_quiet_on | go_big_quiet_call (first | (go_at_call 22; exact Hi.calls (K1.out _)) | (go_at_call 20; first | with_reducible exact Hi.calls (G1.out _) | with_reducible exact Hi.calls (G2.out _)))))
      refine wpQuiet_nil ?_
      intro _ hw
      obtain ⟨u1, rfl⟩ := hw
      have p0 := Hi.blk m0 u1
      have p2 := Hi.blk m2 u1
      have p3 := Hi.blk m3 u1
      have p4 := Hi.blk m4 u1
      have p9 := Hi.blk b4 u1
      have hBw5 := hBw4.trans (u1.below.mono (by omega))
      have hz5 : w.heap.size + 5 ≤ u1.W.heap.size := by have := u1.below.size; omega
      have hlt5 : w3.heap.size < u1.W.heap.size := Nat.lt_of_lt_of_le hlt4 u1.below.size
      generalize u1.W = W5 at *
      clear G1 G2 K1 L3 L4 L5 EQ m0 m1 m2 m3 m4 b4 HS4
      first
      | (have hpe : pairE l n a b = pairV zeroA6 zeroA6 83 := HPE.out.trans (if_pos (by simp; done))
         rw [hpe] at HQ
         clear hpe HPE HPB
         obtain ⟨V1, V2, s1, s2, v1, v2, hBE, _, _⟩ := two_stores (w := w) (x := zeroA6) (y := zeroA6) rfl rfl p3 p4 hBw5 (by omega)
         have HS1 : Hid _ := s1
         have HS2 : Hid _ := s2
         have HV1 : Hid _ := v1
         have HV2 : Hid _ := v2
         have HBE : Hid _ := hBE
         clear s1 s2 v1 v2 hBE
         go_wp2_with first
           | ((with_reducible show wpList _ _ _ _ _ _); refine armS (.tmp 6) (.tmp 36) 23 rfl rfl rfl rfl HS1.out ?_)
           | ((with_reducible show wpList _ _ _ _ _ _); refine armS (.tmp 7) (.tmp 37) 23 rfl rfl rfl rfl HS2.out ?_)
         refine bodyPost_ret (res3cc Tryd.results11 rfl rfl HV1.out HV2.out) rfl ?_
         rw [← HQ.out]
         exact ⟨rfl, HBE.out⟩)
      | (have hpe : pairE l n a b = pairV x y 0 := HPE.out.trans (if_neg (by simp; done))
         rw [hpe] at HQ
         clear hpe HPE
         have HLP5 : Hid _ := loadP6 hl (CellsAt.pfx hl p0).1
         have HLB5 : Hid _ := agg_load (t := 27) Tryd.isAgg27 Tryd.sizeOf27 (vs := b8 b) (by rw [b8_length, hb]) (CellsAt.of_blk p2)
         go_wp2_with first
           | ((with_reducible show wpList _ _ _ _ _ _); refine armL (.tmp 3) 25 rfl rfl rfl HLP5.out ?_)
           | ((with_reducible show wpList _ _ _ _ _ _); refine armL (.tmp 5) 27 rfl rfl rfl HLB5.out ?_)
         refine (HPB.out W5).mono ?_
         rintro e w6 ⟨rfl, hB6⟩
         unfold AE6
         obtain ⟨w7, hst7, b7, hB7⟩ := box_new Tryd.sizeOf23 w6 zero16V rfl (u8s y) (by rw [u8s_length, hyl]) (u8s_one _)
         have HS7 : Hid _ := hst7
         have hB57 := hB6.trans (hB7.mono hB6.size)
         have r3 := (hB57.block (w.heap.size + 3) (by omega)).trans p3
         have r4 := (hB57.block (w.heap.size + 4) (by omega)).trans p4
         have r9 := (hB57.block w3.heap.size hlt5).trans p9
         have hBw7 := hBw5.trans (hB57.mono (by omega))
         have hs6 : w.heap.size + 5 ≤ w6.heap.size := by have := hB6.size; omega
         clear hst7 HLP5 HLB5 HPB p0 p2 p3 p4 p9 hB6 hB7 hB57
         go_wp2_with ((with_reducible show wpList _ _ _ _ _ _); refine armS (.tmp 11) (.tmp 42) 23 rfl rfl rfl rfl HS7.out ?_)
         refine wp_region_held (S := (fun W => W.heap[w3.heap.size]? = some (.cells (u8s x).toArray 23) ∧ W.heap[w6.heap.size]? = some (.cells (u8s y).toArray 23))) (by kernel_rfl) ?_
         show wpAnyH _ _ _ _ _ 5 (Array.replicate 5 false) _ _
         refine take_one (i := 0) (d := some 44) (v := (A6 x)) rfl rfl rfl (by kernel_rfl) (by kernel_rfl) (by kernel_rfl) (fun _ _ d _ _ h => by cases d <;> exact h) (fun W hS => ex_loadA (.tmp 9) 23 rfl rfl (load6 hxl (CellsAt.of_blk hS.1))) ⟨r9, b7⟩ ?_
         simp only [Act.put, List.setIfInBounds_toArray, List.set_cons_zero, List.set_cons_succ]
         refine take_one (i := 1) (d := some 45) (v := (A6 y)) rfl rfl rfl (by kernel_rfl) (by kernel_rfl) (by kernel_rfl) (fun _ _ d _ _ h => by cases d <;> exact h) (fun W hS => ex_loadA (.tmp 11) 23 rfl rfl (load6 hyl (CellsAt.of_blk hS.2))) ⟨r9, b7⟩ ?_
         simp only [Act.put, List.setIfInBounds_toArray, List.set_cons_zero, List.set_cons_succ]
         obtain ⟨V1, V2, s1, s2, v1, v2, hBE, o1, o2⟩ := two_stores (w := w) (W := w7.drew) (x := x) (y := y) hxl hyl r3 r4 hBw7.drew (by omega)
         have HS1 : Hid _ := s1
         have HS2 : Hid _ := s2
         have HV1 : Hid _ := v1
         have HV2 : Hid _ := v2
         have HBE : Hid _ := hBE
         have t9 := (o1.other w3.heap.size (by omega)).trans r9
         have t7 := (o1.other w6.heap.size (by omega)).trans b7
         have u9 := (o2.other w3.heap.size (by omega)).trans t9
         have u7 := (o2.other w6.heap.size (by omega)).trans t7
         refine all_one (i := 2) (by kernel_rfl) rfl rfl ?_
         refine wp_storeA (.tmp 6) (.tmp 44) 23 rfl rfl rfl rfl HS1.out ?_
         refine ⟨⟨t9, t7⟩, ?_⟩
         refine all_one (i := 3) (by kernel_rfl) rfl rfl ?_
         refine wp_storeA (.tmp 7) (.tmp 45) 23 rfl rfl rfl rfl HS2.out ?_
         refine ⟨⟨u9, u7⟩, ?_⟩
         refine take_one (i := 4) (d := some 8) (v := .int .i64 0) rfl rfl rfl (by kernel_rfl) (by kernel_rfl) (by kernel_rfl) (fun _ _ d _ _ h => by cases d <;> exact h) (fun W hS => by simp [execOp, go_sem]) ⟨u9, u7⟩ ?_
         refine wpAnyH_done (by kernel_rfl) ?_ _
         simp only [Act.put, List.setIfInBounds_toArray, List.set_cons_zero, List.set_cons_succ]
         go_wp2
         refine bodyPost_ret (res3cc Tryd.results11 rfl rfl HV1.out HV2.out) rfl ?_
         rw [← HQ.out]
         exact ⟨rfl, HBE.out⟩)
  · have hpe : pairE l n a b = pairV zeroA6 zeroA6 ce := by
      have e : pairErr l n a b = chkE l n := by unfold pairErr; rw [if_pos h0]
      unfold pairE
      rw [e, if_neg h0, if_neg h0, HCE.out]
    rw [hpe] at HQ
    have q0 : (ce != 0) = true := by rw [HCE.out]; simpa using h0
    have p3 := m3
    have p4 := m4
    clear hpe HXX HCE h0 HPB b4
    obtain ⟨V1, V2, s1, s2, v1, v2, hBE, _, _⟩ := two_stores (w := w) (x := zeroA6) (y := zeroA6) rfl rfl p3 p4 hBw4 (by omega)
    have HS1 : Hid _ := s1
    have HS2 : Hid _ := s2
    have HV1 : Hid _ := v1
    have HV2 : Hid _ := v2
    have HBE : Hid _ := hBE
    clear s1 s2 v1 v2 hBE
    go_wp2_with first
      | ((with_reducible show wpList _ _ _ _ _ _); refine armS (.tmp 9) (.tmp 17) 23 rfl rfl rfl rfl HS4.out ?_)
      | ((with_reducible show wpList _ _ _ _ _ _); refine armS (.tmp 6) (.tmp 21) 23 rfl rfl rfl rfl HS1.out ?_)
      | ((with_reducible show wpList _ _ _ _ _ _); refine armS (.tmp 7) (.tmp 22) 23 rfl rfl rfl rfl HS2.out ?_)
    refine bodyPost_ret (res3cc Tryd.results11 rfl rfl HV1.out HV2.out) rfl ?_
    rw [← HQ.out]
    exact ⟨rfl, HBE.out⟩

end Go.Proofs.YtfiiopgdgfbkkaaDoor

namespace Go.Proofs.YtfiiopgdgfbkkaaDoor
open Go Go.RowKit Go.ChangeShapes Go.WideShapes Go.ChangeAt
set_option linter.unusedVariables false
set_option linter.unusedSimpArgs false

set_option maxHeartbeats 6000000 in
set_option maxRecDepth 100000 in
theorem RPair_any (l a b : List Int) (n : Int) (w : World) (hl : l.length = 16) (hf : FitB l) (hn : -9223372036854775808 ≤ n ∧ n ≤ 9223372036854775807) (ha : a.length = 4) (fa : FitB a) (hb : b.length = 4) (fb : FitB b) :
    Calls Tryd.prog 12 #[P6 l n, A4L a, A4L b] w fun e w' => PutPost (pairE l n a b) w e w' := by
  generalize hQ : (fun e w' => PutPost (pairE l n a b) w e w') = Q
  have HQ : Hid _ := hQ
  clear hQ
  obtain ⟨hb0, hb1, hb2, hb3, hb4, hBw, hz⟩ := boxes5 w (cp6 l n) (b8 a) (b8 b) zero16V zero16V 25 27 27 23 23
  generalize hW : ((((w.alloc (.cells (cp6 l n).toArray 25)).alloc (.cells (b8 a).toArray 27)).alloc (.cells (b8 b).toArray 27)).alloc (.cells zero16V.toArray 23)).alloc (.cells zero16V.toArray 23) = W2 at *
  have HLP : Hid _ := loadP6 hl (CellsAt.pfx hl hb0).1
  have HZ : Hid _ := hz
  have HC : Hid _ := fun W => RCheckE_any l n W hf hl hn
  have HPA : Hid _ := fun W => RPut_any l n a W hf hl hn ha fa
  have HPB : Hid _ := fun W => RPut_any l n b W hf hl hn hb fb
  clear hz
  go_enter Tryd.func12, Tryd.ntmps12
  go_wp2_with ((with_reducible show wpList _ _ _ _ _ _); refine armL (.tmp 3) 25 rfl rfl rfl HLP.out ?_)
  refine (HC.out W2).mono ?_
  rintro e w4 ⟨rfl, hB24⟩
  have hz := HZ.out
  have m0 := (hB24.block w.heap.size (by omega)).trans hb0
  have m1 := (hB24.block (w.heap.size + 1) (by omega)).trans hb1
  have m2 := (hB24.block (w.heap.size + 2) (by omega)).trans hb2
  have m3 := (hB24.block (w.heap.size + 3) (by omega)).trans hb3
  have m4 := (hB24.block (w.heap.size + 4) (by omega)).trans hb4
  have hBw4 := hBw.trans (hB24.mono (by omega))
  have hz4 : w.heap.size + 5 ≤ w4.heap.size := by have := hB24.size; omega
  clear HLP HC hW hb0 hb1 hb2 hb3 hb4 hBw hB24 hz HZ
  by_cases h0 : chkE l n = 0
  · have hpa : putE l n a = AE6 (putL l n a) 0 := by unfold putE; rw [if_pos h0, h0]
    have hpb : putE l n b = AE6 (putL l n b) 0 := by unfold putE; rw [if_pos h0, h0]
    rw [hpa] at HPA
    rw [hpb] at HPB
    have hyl : (putL l n b).length = 16 := by unfold putL; rw [putK_length, hl]
    have hxl : (putL l n a).length = 16 := by unfold putL; rw [putK_length, hl]
    have HPE : Hid (pairE l n a b = if (knownB l n && !(globB a && globB b)) = true then pairV zeroA6 zeroA6 83 else pairV (putL l n a) (putL l n b) 0) := by
      have e : pairErr l n a b = if (knownB l n && !(globB a && globB b)) = true then 83 else 0 := by unfold pairErr; rw [if_neg (by simpa using h0)]
      unfold pairE
      rw [e]
      split <;> rfl
    have G1 : Hid (∀ y : Hi w4, Calls Tryd.prog 21 #[A4L a] y.W fun e w' => e = .returned (.bool (globB a)) ∧ Below y.W.heap.size y.W w') := fun y => RGlobal_any a y.W ha fa
    have G2 : Hid (∀ y : Hi w4, Calls Tryd.prog 21 #[A4L b] y.W fun e w' => e = .returned (.bool (globB b)) ∧ Below y.W.heap.size y.W w') := fun y => RGlobal_any b y.W hb fb
    have K1 : Hid (∀ y : Hi w4, Calls Tryd.prog 23 #[] y.W fun e w' => e = .returned (P6 kP2A 96) ∧ Below y.W.heap.size y.W w') := fun y => RKnown_any y.W
    have L3 : Hid (∀ y : Hi w4, (Instr.loadAt 25 (.pointer (some ⟨w.heap.size, 0, none⟩))).run Tryd.prog y.W = .ok (P6 l n) y.W) := fun y => loadP6 hl (CellsAt.pfx hl (Hi.blk m0 y)).1
    have L4 : Hid (∀ y : Hi w4, (Instr.loadAt 27 (.pointer (some ⟨w.heap.size + 1, 0, none⟩))).run Tryd.prog y.W = .ok (A4L a) y.W) := fun y => agg_load Tryd.isAgg27 Tryd.sizeOf27 (by rw [b8_length, ha]) (CellsAt.of_blk (Hi.blk m1 y))
    have L5 : Hid (∀ y : Hi w4, (Instr.loadAt 27 (.pointer (some ⟨w.heap.size + 1 + 1, 0, none⟩))).run Tryd.prog y.W = .ok (A4L b) y.W) := fun y => agg_load Tryd.isAgg27 Tryd.sizeOf27 (by rw [b8_length, hb]) (CellsAt.of_blk (Hi.blk m2 y))
    have EQ : Hid _ := fun W => eqlP6_known l n hf hl W
    rw [h0]
    clear hpa hpb h0
    generalize putL l n a = x at *
    generalize putL l n b = y at *
    generalize globB a = ga at *
    generalize globB b = gb at *
    generalize knownB l n = kn at *
    have hcases : (kn = false ∧ True ∧ True) ∨ (kn = true ∧ ga = false ∧ True) ∨ (kn = true ∧ ga = true ∧ gb = false) ∨ (kn = true ∧ ga = true ∧ gb = true) := by cases kn <;> cases ga <;> cases gb <;> simp
    have HCA : Hid _ := hcases
    clear hcases
    go_wp2_with fail
    have hcases := HCA.out
    clear HCA
    rcases hcases with h | h | h | h
    all_goals
      obtain ⟨h1, h2, h3⟩ := h
      subst h1
      try subst h2
      try subst h3
      refine wp_region_hi (by kernel_rfl) (by kernel_rfl) ?_
      repeat (first
        | go_big_quiet_skip
        | (go_big_quiet_want; refine hi_load (.tmp 3) 25 rfl rfl L3.out ?_; simp only [Act.put, List.setIfInBounds_toArray, List.set_cons_zero, List.set_cons_succ]; go_big_quiet_on)
        | (go_big_quiet_want; refine hi_load (.tmp 4) 27 rfl rfl L4.out ?_; simp only [Act.put, List.setIfInBounds_toArray, List.set_cons_zero, List.set_cons_succ]; go_big_quiet_on)
        | (go_big_quiet_want; refine hi_load (.tmp 5) 27 rfl rfl L5.out ?_; simp only [Act.put, List.setIfInBounds_toArray, List.set_cons_zero, List.set_cons_succ]; go_big_quiet_on)
        | (go_big_quiet_want; refine hi_bin8 .eql 25 25 (.tmp 21) (.tmp 22) rfl rfl rfl (fun W => gdP6 _ _ _ _ _ W) EQ.out ?_; simp only [Act.put, List.setIfInBounds_toArray, List.set_cons_zero, List.set_cons_succ]; go_big_quiet_on)
        | (go_big_quiet_want; go_big_quiet_op; first | go_big_quiet_on | go_big_quiet_call (first | (go_at_call 23; exact Hi.calls (K1.out _)) | (go_at_call 21; first | with_reducible exact Hi.calls (G1.out _) | with_reducible exact Hi.calls (G2.out _)))))
      refine wpQuiet_nil ?_
      intro _ hw
      obtain ⟨u1, rfl⟩ := hw
      have p0 := Hi.blk m0 u1
      have p1 := Hi.blk m1 u1
      have p2 := Hi.blk m2 u1
      have p3 := Hi.blk m3 u1
      have p4 := Hi.blk m4 u1
      have hBw5 := hBw4.trans (u1.below.mono (by omega))
      have hz5 : w.heap.size + 5 ≤ u1.W.heap.size := by have := u1.below.size; omega
      generalize u1.W = W5 at *
      clear G1 G2 K1 L3 L4 L5 EQ m0 m1 m2 m3 m4
      first
      | (have hpe : pairE l n a b = pairV zeroA6 zeroA6 83 := HPE.out.trans (if_pos (by simp; done))
         rw [hpe] at HQ
         clear hpe HPE HPB HPA
         obtain ⟨V1, V2, s1, s2, v1, v2, hBE, _, _⟩ := two_stores (w := w) (x := zeroA6) (y := zeroA6) rfl rfl p3 p4 hBw5 (by omega)
         have HS1 : Hid _ := s1
         have HS2 : Hid _ := s2
         have HV1 : Hid _ := v1
         have HV2 : Hid _ := v2
         have HBE : Hid _ := hBE
         clear s1 s2 v1 v2 hBE
         go_wp2_with first
           | ((with_reducible show wpList _ _ _ _ _ _); refine armS (.tmp 6) (.tmp 34) 23 rfl rfl rfl rfl HS1.out ?_)
           | ((with_reducible show wpList _ _ _ _ _ _); refine armS (.tmp 7) (.tmp 35) 23 rfl rfl rfl rfl HS2.out ?_)
         refine bodyPost_ret (res3cc Tryd.results12 rfl rfl HV1.out HV2.out) rfl ?_
         rw [← HQ.out]
         exact ⟨rfl, HBE.out⟩)
      | (have hpe : pairE l n a b = pairV x y 0 := HPE.out.trans (if_neg (by simp; done))
         rw [hpe] at HQ
         clear hpe HPE
         have HLP5 : Hid _ := loadP6 hl (CellsAt.pfx hl p0).1
         have HLA5 : Hid _ := agg_load (t := 27) Tryd.isAgg27 Tryd.sizeOf27 (vs := b8 a) (by rw [b8_length, ha]) (CellsAt.of_blk p1)
         go_wp2_with first
           | ((with_reducible show wpList _ _ _ _ _ _); refine armL (.tmp 3) 25 rfl rfl rfl HLP5.out ?_)
           | ((with_reducible show wpList _ _ _ _ _ _); refine armL (.tmp 4) 27 rfl rfl rfl HLA5.out ?_)
         refine (HPA.out W5).mono ?_
         rintro e w3 ⟨rfl, hB3⟩
         unfold AE6
         obtain ⟨w8, hst8, b8_, hB8⟩ := box_new Tryd.sizeOf23 w3 zero16V rfl (u8s x) (by rw [u8s_length, hxl]) (u8s_one _)
         have HS8 : Hid _ := hst8
         have hB58 := hB3.trans (hB8.mono hB3.size)
         have q0 := (hB58.block w.heap.size (by omega)).trans p0
         have q2 := (hB58.block (w.heap.size + 2) (by omega)).trans p2
         have q3 := (hB58.block (w.heap.size + 3) (by omega)).trans p3
         have q4 := (hB58.block (w.heap.size + 4) (by omega)).trans p4
         have hBw8 := hBw5.trans (hB58.mono (by omega))
         have hz8 : w.heap.size + 5 ≤ w8.heap.size := by have := hB58.size; omega
         have hs3 : w.heap.size + 5 ≤ w3.heap.size := by have := hB3.size; omega
         have hlt8 : w3.heap.size < w8.heap.size := (Array.getElem?_eq_some_iff.1 b8_).1
         have HLP8 : Hid _ := loadP6 hl (CellsAt.pfx hl q0).1
         have HLB8 : Hid _ := agg_load (t := 27) Tryd.isAgg27 Tryd.sizeOf27 (vs := b8 b) (by rw [b8_length, hb]) (CellsAt.of_blk q2)
         clear hst8 HLP5 HLA5 HPA p0 p1 p2 p3 p4 hB3 hB8 hB58
         go_wp2_with first
           | ((with_reducible show wpList _ _ _ _ _ _); refine armS (.tmp 10) (.tmp 40) 23 rfl rfl rfl rfl HS8.out ?_)
           | ((with_reducible show wpList _ _ _ _ _ _); refine armL (.tmp 3) 25 rfl rfl rfl HLP8.out ?_)
           | ((with_reducible show wpList _ _ _ _ _ _); refine armL (.tmp 5) 27 rfl rfl rfl HLB8.out ?_)
         refine (HPB.out w8).mono ?_
         rintro e w6 ⟨rfl, hB6⟩
         unfold AE6
         obtain ⟨w7, hst7, b7, hB7⟩ := box_new Tryd.sizeOf23 w6 zero16V rfl (u8s y) (by rw [u8s_length, hyl]) (u8s_one _)
         have HS7 : Hid _ := hst7
         have hB57 := hB6.trans (hB7.mono hB6.size)
         have r3 := (hB57.block (w.heap.size + 3) (by omega)).trans q3
         have r4 := (hB57.block (w.heap.size + 4) (by omega)).trans q4
         have r9 := (hB57.block w3.heap.size hlt8).trans b8_
         have hBw7 := hBw8.trans (hB57.mono (by omega))
         have hs6 : w.heap.size + 5 ≤ w6.heap.size := by have := hB6.size; omega
         have hne : w3.heap.size ≠ w6.heap.size := by have := hB6.size; omega
         clear hst7 HLP8 HLB8 HPB q0 q2 q3 q4 hB6 hB7 hB57 HS8
         go_wp2_with ((with_reducible show wpList _ _ _ _ _ _); refine armS (.tmp 12) (.tmp 46) 23 rfl rfl rfl rfl HS7.out ?_)
         refine wp_region_held (S := (fun W => W.heap[w3.heap.size]? = some (.cells (u8s x).toArray 23) ∧ W.heap[w6.heap.size]? = some (.cells (u8s y).toArray 23))) (by kernel_rfl) ?_
         show wpAnyH _ _ _ _ _ 5 (Array.replicate 5 false) _ _
         refine take_one (i := 0) (d := some 48) (v := (A6 x)) rfl rfl rfl (by kernel_rfl) (by kernel_rfl) (by kernel_rfl) (fun _ _ d _ _ h => by cases d <;> exact h) (fun W hS => ex_loadA (.tmp 10) 23 rfl rfl (load6 hxl (CellsAt.of_blk hS.1))) ⟨r9, b7⟩ ?_
         simp only [Act.put, List.setIfInBounds_toArray, List.set_cons_zero, List.set_cons_succ]
         refine take_one (i := 1) (d := some 49) (v := (A6 y)) rfl rfl rfl (by kernel_rfl) (by kernel_rfl) (by kernel_rfl) (fun _ _ d _ _ h => by cases d <;> exact h) (fun W hS => ex_loadA (.tmp 12) 23 rfl rfl (load6 hyl (CellsAt.of_blk hS.2))) ⟨r9, b7⟩ ?_
         simp only [Act.put, List.setIfInBounds_toArray, List.set_cons_zero, List.set_cons_succ]
         obtain ⟨V1, V2, s1, s2, v1, v2, hBE, o1, o2⟩ := two_stores (w := w) (W := w7.drew) (x := x) (y := y) hxl hyl r3 r4 hBw7.drew (by omega)
         have HS1 : Hid _ := s1
         have HS2 : Hid _ := s2
         have HV1 : Hid _ := v1
         have HV2 : Hid _ := v2
         have HBE : Hid _ := hBE
         have t9 := (o1.other w3.heap.size (by omega)).trans r9
         have t7 := (o1.other w6.heap.size (by omega)).trans b7
         have u9 := (o2.other w3.heap.size (by omega)).trans t9
         have u7 := (o2.other w6.heap.size (by omega)).trans t7
         refine all_one (i := 2) (by kernel_rfl) rfl rfl ?_
         refine wp_storeA (.tmp 6) (.tmp 48) 23 rfl rfl rfl rfl HS1.out ?_
         refine ⟨⟨t9, t7⟩, ?_⟩
         refine all_one (i := 3) (by kernel_rfl) rfl rfl ?_
         refine wp_storeA (.tmp 7) (.tmp 49) 23 rfl rfl rfl rfl HS2.out ?_
         refine ⟨⟨u9, u7⟩, ?_⟩
         refine take_one (i := 4) (d := some 8) (v := .int .i64 0) rfl rfl rfl (by kernel_rfl) (by kernel_rfl) (by kernel_rfl) (fun _ _ d _ _ h => by cases d <;> exact h) (fun W hS => by simp [execOp, go_sem]) ⟨u9, u7⟩ ?_
         refine wpAnyH_done (by kernel_rfl) ?_ _
         simp only [Act.put, List.setIfInBounds_toArray, List.set_cons_zero, List.set_cons_succ]
         go_wp2
         refine bodyPost_ret (res3cc Tryd.results12 rfl rfl HV1.out HV2.out) rfl ?_
         rw [← HQ.out]
         exact ⟨rfl, HBE.out⟩)
  · have hpe : pairE l n a b = pairV zeroA6 zeroA6 (chkE l n) := by
      have e : pairErr l n a b = chkE l n := by unfold pairErr; rw [if_pos h0]
      unfold pairE
      rw [e, if_neg h0, if_neg h0]
    rw [hpe] at HQ
    have q0 : (chkE l n != 0) = true := by simpa using h0
    have p3 := m3
    have p4 := m4
    clear hpe h0 HPB HPA
    generalize chkE l n = ce at *
    obtain ⟨V1, V2, s1, s2, v1, v2, hBE, _, _⟩ := two_stores (w := w) (x := zeroA6) (y := zeroA6) rfl rfl p3 p4 hBw4 (by omega)
    have HS1 : Hid _ := s1
    have HS2 : Hid _ := s2
    have HV1 : Hid _ := v1
    have HV2 : Hid _ := v2
    have HBE : Hid _ := hBE
    clear s1 s2 v1 v2 hBE
    go_wp2_with first
      | ((with_reducible show wpList _ _ _ _ _ _); refine armS (.tmp 6) (.tmp 18) 23 rfl rfl rfl rfl HS1.out ?_)
      | ((with_reducible show wpList _ _ _ _ _ _); refine armS (.tmp 7) (.tmp 19) 23 rfl rfl rfl rfl HS2.out ?_)
    refine bodyPost_ret (res3cc Tryd.results12 rfl rfl HV1.out HV2.out) rfl ?_
    rw [← HQ.out]
    exact ⟨rfl, HBE.out⟩

/-- Two new boxes are filled. -/
theorem two_new6 (W : World) {x y : List Int} (hx : x.length = 16) (hy : y.length = 16) :
    ∃ V1 V2, (Instr.storeAt 23 (.pointer (some ⟨W.heap.size, 0, none⟩)) (A6 x)).run Tryd.prog ((W.alloc (.cells zero16V.toArray 23)).alloc (.cells zero16V.toArray 23)) = .ok () V1 ∧ (Instr.storeAt 23 (.pointer (some ⟨W.heap.size + 1, 0, none⟩)) (A6 y)).run Tryd.prog V1 = .ok () V2 ∧
      V2.heap[W.heap.size]? = some (.cells (u8s x).toArray 23) ∧ V2.heap[W.heap.size + 1]? = some (.cells (u8s y).toArray 23) ∧ Below W.heap.size W V2 ∧ W.heap.size + 2 ≤ V2.heap.size := by
  have b3 := blk_alloc (blk_new W (.cells zero16V.toArray 23)) (.cells zero16V.toArray 23)
  have b4 := blk_new (W.alloc (.cells zero16V.toArray 23)) (.cells zero16V.toArray 23)
  have z1 : (W.alloc (.cells zero16V.toArray 23)).heap.size = W.heap.size + 1 := by simp
  rw [z1] at b4
  have hB : Below W.heap.size W ((W.alloc (.cells zero16V.toArray 23)).alloc (.cells zero16V.toArray 23)) := ((Below.refl _ W).alloc (Nat.le_refl _) _).alloc (by simp) _
  obtain ⟨V1, h1, c1, o1⟩ := box_store Tryd.sizeOf23 b3 rfl (u8s x) (by rw [u8s_length, hx]) (u8s_one _)
  obtain ⟨V2, h2, c2, o2⟩ := box_store Tryd.sizeOf23 ((o1.other (W.heap.size + 1) (by omega)).trans b4) rfl (u8s y) (by rw [u8s_length, hy]) (u8s_one _)
  exact ⟨V1, V2, h1, h2, (o2.other W.heap.size (by omega)).trans c1, c2, (hB.trans (o1.below (Nat.le_refl _))).trans (o2.below (by omega)), (Array.getElem?_eq_some_iff.1 c2).1⟩

theorem eqlA6_same (l : List Int) (hl : l.length = 16) (hf : FitB l) (W : World) : (binOp .eql 23 (A6 l) (A6 l)).run Tryd.prog W = .ok (.bool true) W := by
  have h := eqlA6 l l hf hf hl hl W
  rw [decide_eq_true rfl] at h
  exact h

set_option maxHeartbeats 6000000 in
set_option maxRecDepth 100000 in
theorem puts_walk (l a b : List Int) (n : Int) (w : World) (ht : Tz w ∧ Spc w) (hl : l.length = 16) (hf : FitB l) (hn : -9223372036854775808 ≤ n ∧ n ≤ 9223372036854775807) (ha : a.length = 4) (fa : FitB a) (hb : b.length = 4) (fb : FitB b) :
    Calls Tryd.prog 3 #[P6 l n, A4L a, A4L b] w fun e w' => PutPost (.bool true) w e w' := by
  generalize hQ : (fun e w' => PutPost (.bool true) w e w') = Q
  have HQ : Hid _ := hQ
  clear hQ
  obtain ⟨hb0, hb1, hb2, hBw, hz⟩ := boxes3 w (cp6 l n) (b8 a) (b8 b) 25 27 27
  generalize hW : ((w.alloc (.cells (cp6 l n).toArray 25)).alloc (.cells (b8 a).toArray 27)).alloc (.cells (b8 b).toArray 27) = W2 at *
  have hsp2 := ht.2.on hBw
  have htz2 := ht.1.on hBw
  have fz : FitB zeroA6 := fit_of (by decide)
  have hXl : (if chkE l n = 0 then putL l n a else zeroA6).length = 16 := by
    split
    · unfold putL; rw [putK_length, hl]
    · rfl
  have hXf : FitB (if chkE l n = 0 then putL l n a else zeroA6) := by
    split
    · exact putK_fit hf fa _ _
    · exact fz
  have hCl : (if pairErr l n a b = 0 then putL l n a else zeroA6).length = 16 := by
    split
    · unfold putL; rw [putK_length, hl]
    · rfl
  have hCf : FitB (if pairErr l n a b = 0 then putL l n a else zeroA6) := by
    split
    · exact putK_fit hf fa _ _
    · exact fz
  have hDl : (if pairErr l n a b = 0 then putL l n b else zeroA6).length = 16 := by
    split
    · unfold putL; rw [putK_length, hl]
    · rfl
  have hDf : FitB (if pairErr l n a b = 0 then putL l n b else zeroA6) := by
    split
    · exact putK_fit hf fb _ _
    · exact fz
  have h1 := fun W => Put_any l n a W hf hl hn ha fa
  have h2 := fun W => RPut_any l n a W hf hl hn ha fa
  have h3 := fun W (hb' : Below W2.heap.size W2 W) => Pair_any l a b n W (hsp2.on hb') hl hf hn ha fa hb fb
  have h4 := fun W => RPair_any l a b n W hl hf hn ha fa hb fb
  have h5 := fun W => Check_any l n W hf hl hn
  have h6 := fun W => RCheckE_any l n W hf hl hn
  unfold putE AE6 at h1 h2
  unfold pairE pairV at h3 h4
  generalize (if chkE l n = 0 then putL l n a else zeroA6) = x at *
  generalize (if pairErr l n a b = 0 then putL l n a else zeroA6) = c at *
  generalize (if pairErr l n a b = 0 then putL l n b else zeroA6) = d at *
  generalize chkE l n = ce at *
  generalize pairErr l n a b = pe at *
  have HLP : Hid (∀ W, Below W2.heap.size W2 W → (Instr.loadAt 25 (.pointer (some ⟨w.heap.size, 0, none⟩))).run Tryd.prog W = .ok (P6 l n) W) := fun W hb' => loadP6 hl (CellsAt.pfx hl ((hb'.block w.heap.size (by omega)).trans hb0)).1
  have HLA : Hid (∀ W, Below W2.heap.size W2 W → (Instr.loadAt 27 (.pointer (some ⟨w.heap.size + 1, 0, none⟩))).run Tryd.prog W = .ok (A4L a) W) := fun W hb' => agg_load Tryd.isAgg27 Tryd.sizeOf27 (by rw [b8_length, ha]) (CellsAt.of_blk ((hb'.block (w.heap.size + 1) (by omega)).trans hb1))
  have HLB : Hid (∀ W, Below W2.heap.size W2 W → (Instr.loadAt 27 (.pointer (some ⟨w.heap.size + 1 + 1, 0, none⟩))).run Tryd.prog W = .ok (A4L b) W) := fun W hb' => agg_load Tryd.isAgg27 Tryd.sizeOf27 (by rw [b8_length, hb]) (CellsAt.of_blk ((hb'.block (w.heap.size + 2) (by omega)).trans hb2))
  have H1 : Hid _ := h1
  have H2 : Hid _ := h2
  have H3 : Hid _ := h3
  have H4 : Hid _ := h4
  have H5 : Hid _ := h5
  have H6 : Hid _ := h6
  have HBW : Hid _ := hBw
  have HTZ : Hid (Tz W2) := htz2
  have hw2 : w.heap.size ≤ W2.heap.size := by omega
  clear h1 h2 h3 h4 h5 h6 hz ht hb0 hb1 hb2 hBw hsp2 htz2
  have P0 : Hid _ := HLP.out W2 (Below.refl _ _)
  have A0 : Hid _ := HLA.out W2 (Below.refl _ _)
  go_enter Tryd.func3, Tryd.ntmps3
  go_wp2_with first
    | ((with_reducible show wpList _ _ _ _ _ _); refine armL (.tmp 3) 25 rfl rfl rfl P0.out ?_)
    | ((with_reducible show wpList _ _ _ _ _ _); refine armL (.tmp 4) 27 rfl rfl rfl A0.out ?_)
  refine (H1.out W2).mono ?_
  rintro e w3 ⟨rfl, hB3⟩
  obtain ⟨w4, hst4, b4, hB4⟩ := box_new Tryd.sizeOf23 w3 zero16V rfl (u8s x) (by rw [u8s_length, hXl]) (u8s_one _)
  have HS4 : Hid _ := hst4
  have hB24 := hB3.trans (hB4.mono hB3.size)
  have hlt4 : w3.heap.size < w4.heap.size := (Array.getElem?_eq_some_iff.1 b4).1
  have P4_ : Hid _ := HLP.out w4 hB24
  have A4_ : Hid _ := HLA.out w4 hB24
  clear hst4 P0 A0 H1 hW hB3 hB4
  go_wp2_with first
    | ((with_reducible show wpList _ _ _ _ _ _); refine armS (.tmp 7) (.tmp 21) 23 rfl rfl rfl rfl HS4.out ?_)
    | ((with_reducible show wpList _ _ _ _ _ _); refine armL (.tmp 3) 25 rfl rfl rfl P4_.out ?_)
    | ((with_reducible show wpList _ _ _ _ _ _); refine armL (.tmp 4) 27 rfl rfl rfl A4_.out ?_)
  refine (H2.out w4).mono ?_
  rintro e w5 ⟨rfl, hB5⟩
  obtain ⟨w6, hst6, b6, hB6⟩ := box_new Tryd.sizeOf23 w5 zero16V rfl (u8s x) (by rw [u8s_length, hXl]) (u8s_one _)
  have HS6 : Hid _ := hst6
  have hB46 := hB5.trans (hB6.mono hB5.size)
  have hB26 := hB24.trans (hB46.mono hB24.size)
  have b46 := (hB46.block w3.heap.size hlt4).trans b4
  have hlt46 : w3.heap.size < w6.heap.size := Nat.lt_of_lt_of_le hlt4 hB46.size
  have hlt6 : w5.heap.size < w6.heap.size := (Array.getElem?_eq_some_iff.1 b6).1
  have P6_ : Hid _ := HLP.out w6 hB26
  have A6_ : Hid _ := HLA.out w6 hB26
  have B6_ : Hid _ := HLB.out w6 hB26
  clear hst6 P4_ A4_ H2 hB5 hB6 HS4 b4 hB24 hB46
  go_wp2_with first
    | ((with_reducible show wpList _ _ _ _ _ _); refine armS (.tmp 9) (.tmp 27) 23 rfl rfl rfl rfl HS6.out ?_)
    | ((with_reducible show wpList _ _ _ _ _ _); refine armL (.tmp 3) 25 rfl rfl rfl P6_.out ?_)
    | ((with_reducible show wpList _ _ _ _ _ _); refine armL (.tmp 4) 27 rfl rfl rfl A6_.out ?_)
    | ((with_reducible show wpList _ _ _ _ _ _); refine armL (.tmp 5) 27 rfl rfl rfl B6_.out ?_)
  refine (H3.out w6 hB26).mono ?_
  rintro e w7 ⟨rfl, hB7⟩
  obtain ⟨V1, w8, s1, s2, c8, d8, hB78, hz8⟩ := two_new6 w7 hCl hDl
  have S1 : Hid _ := s1
  have S2 : Hid _ := s2
  have hB68 := hB7.trans (hB78.mono hB7.size)
  have hB28 := hB26.trans (hB68.mono hB26.size)
  have b48 := (hB68.block w3.heap.size hlt46).trans b46
  have b68 := (hB68.block w5.heap.size hlt6).trans b6
  have hlt48 : w3.heap.size < w8.heap.size := Nat.lt_of_lt_of_le hlt46 hB68.size
  have hlt68 : w5.heap.size < w8.heap.size := Nat.lt_of_lt_of_le hlt6 hB68.size
  have P8_ : Hid _ := HLP.out w8 hB28
  have A8_ : Hid _ := HLA.out w8 hB28
  have B8_ : Hid _ := HLB.out w8 hB28
  clear s1 s2 P6_ A6_ B6_ H3 hB7 hB78 HS6 b46 b6 hB26 hB68
  go_wp2_with first
    | ((with_reducible show wpList _ _ _ _ _ _); refine armS (.tmp 11) (.tmp 34) 23 rfl rfl rfl rfl S1.out ?_)
    | ((with_reducible show wpList _ _ _ _ _ _); refine armS (.tmp 12) (.tmp 35) 23 rfl rfl rfl rfl S2.out ?_)
    | ((with_reducible show wpList _ _ _ _ _ _); refine armL (.tmp 3) 25 rfl rfl rfl P8_.out ?_)
    | ((with_reducible show wpList _ _ _ _ _ _); refine armL (.tmp 4) 27 rfl rfl rfl A8_.out ?_)
    | ((with_reducible show wpList _ _ _ _ _ _); refine armL (.tmp 5) 27 rfl rfl rfl B8_.out ?_)
  refine (H4.out w8).mono ?_
  rintro e w9 ⟨rfl, hB9⟩
  obtain ⟨V3, w10, s3, s4, c10, d10, hB910, hz10⟩ := two_new6 w9 hCl hDl
  have S3 : Hid _ := s3
  have S4 : Hid _ := s4
  have hB810 := hB9.trans (hB910.mono hB9.size)
  have hB210 := hB28.trans (hB810.mono hB28.size)
  have hBw10 : Below w.heap.size w w10 := HBW.out.trans (hB210.mono hw2)
  have htz10 := HTZ.out.on hB210
  have r7 := (hB810.block w3.heap.size hlt48).trans b48
  have r9 := (hB810.block w5.heap.size hlt68).trans b68
  have r11 := (hB810.block w7.heap.size (by omega)).trans c8
  have r12 := (hB810.block (w7.heap.size + 1) (by omega)).trans d8
  have L7 : Hid (∀ u : Hi w10, (Instr.loadAt 23 (.pointer (some ⟨w3.heap.size, 0, none⟩))).run Tryd.prog u.W = .ok (A6 x) u.W) := fun u => load6 hXl (CellsAt.of_blk (Hi.blk r7 u))
  have L9 : Hid (∀ u : Hi w10, (Instr.loadAt 23 (.pointer (some ⟨w5.heap.size, 0, none⟩))).run Tryd.prog u.W = .ok (A6 x) u.W) := fun u => load6 hXl (CellsAt.of_blk (Hi.blk r9 u))
  have L11 : Hid (∀ u : Hi w10, (Instr.loadAt 23 (.pointer (some ⟨w7.heap.size, 0, none⟩))).run Tryd.prog u.W = .ok (A6 c) u.W) := fun u => load6 hCl (CellsAt.of_blk (Hi.blk r11 u))
  have L12 : Hid (∀ u : Hi w10, (Instr.loadAt 23 (.pointer (some ⟨w7.heap.size + 1, 0, none⟩))).run Tryd.prog u.W = .ok (A6 d) u.W) := fun u => load6 hDl (CellsAt.of_blk (Hi.blk r12 u))
  have L14 : Hid (∀ u : Hi w10, (Instr.loadAt 23 (.pointer (some ⟨w9.heap.size, 0, none⟩))).run Tryd.prog u.W = .ok (A6 c) u.W) := fun u => load6 hCl (CellsAt.of_blk (Hi.blk c10 u))
  have L15 : Hid (∀ u : Hi w10, (Instr.loadAt 23 (.pointer (some ⟨w9.heap.size + 1, 0, none⟩))).run Tryd.prog u.W = .ok (A6 d) u.W) := fun u => load6 hDl (CellsAt.of_blk (Hi.blk d10 u))
  have L3 : Hid (∀ u : Hi w10, (Instr.loadAt 25 (.pointer (some ⟨w.heap.size, 0, none⟩))).run Tryd.prog u.W = .ok (P6 l n) u.W) := fun u => HLP.out u.W (hB210.trans (u.below.mono hB210.size))
  have C5 : Hid (∀ u : Hi w10, Calls Tryd.prog 13 #[P6 l n] u.W fun e w' => e = .returned (.int .i64 ce) ∧ Below u.W.heap.size u.W w') := fun u => H5.out u.W
  have C6 : Hid (∀ u : Hi w10, Calls Tryd.prog 14 #[P6 l n] u.W fun e w' => e = .returned (.int .i64 ce) ∧ Below u.W.heap.size u.W w') := fun u => H6.out u.W
  have AW : Hid (∀ u : Hi w10, Calls Tryd.prog 15 #[] u.W fun e w' => e = .returned (.bool true) ∧ Below u.W.heap.size u.W w') := fun u => awake_any u.W (htz10.on u.below)
  have E1 : Hid _ := fun W => eqlA6_same x hXl hXf W
  have E2 : Hid _ := fun W => eqlA6_same c hCl hCf W
  have E3 : Hid _ := fun W => eqlA6_same d hDl hDf W
  have q1 : (ce == ce) = true := by simp
  have q2 : (pe == pe) = true := by simp
  clear s3 s4 P8_ A8_ B8_ H4 H5 H6 hB9 hB910 S1 S2 b48 b68 c8 d8 c10 d10 hB28 hB810 hB210 HLP HLA HLB HBW HTZ r7 r9 r11 r12
  go_wp2_with first
    | ((with_reducible show wpList _ _ _ _ _ _); refine armS (.tmp 14) (.tmp 42) 23 rfl rfl rfl rfl S3.out ?_)
    | ((with_reducible show wpList _ _ _ _ _ _); refine armS (.tmp 15) (.tmp 43) 23 rfl rfl rfl rfl S4.out ?_)
  refine wp_region_hi (by kernel_rfl) (by kernel_rfl) ?_
  repeat (first
    | go_big_quiet_skip
    | (go_big_quiet_want; refine hi_load (.tmp 7) 23 rfl rfl L7.out ?_; simp only [Act.put, List.setIfInBounds_toArray, List.set_cons_zero, List.set_cons_succ]; go_big_quiet_on)
    | (go_big_quiet_want; refine hi_load (.tmp 9) 23 rfl rfl L9.out ?_; simp only [Act.put, List.setIfInBounds_toArray, List.set_cons_zero, List.set_cons_succ]; go_big_quiet_on)
    | (go_big_quiet_want; refine hi_load (.tmp 11) 23 rfl rfl L11.out ?_; simp only [Act.put, List.setIfInBounds_toArray, List.set_cons_zero, List.set_cons_succ]; go_big_quiet_on)
    | (go_big_quiet_want; refine hi_load (.tmp 12) 23 rfl rfl L12.out ?_; simp only [Act.put, List.setIfInBounds_toArray, List.set_cons_zero, List.set_cons_succ]; go_big_quiet_on)
    | (go_big_quiet_want; refine hi_load (.tmp 14) 23 rfl rfl L14.out ?_; simp only [Act.put, List.setIfInBounds_toArray, List.set_cons_zero, List.set_cons_succ]; go_big_quiet_on)
    | (go_big_quiet_want; refine hi_load (.tmp 15) 23 rfl rfl L15.out ?_; simp only [Act.put, List.setIfInBounds_toArray, List.set_cons_zero, List.set_cons_succ]; go_big_quiet_on)
    | (go_big_quiet_want; refine hi_load (.tmp 3) 25 rfl rfl L3.out ?_; simp only [Act.put, List.setIfInBounds_toArray, List.set_cons_zero, List.set_cons_succ]; go_big_quiet_on)
    | (go_big_quiet_want; refine hi_bin8 .eql 23 23 (.tmp 45) (.tmp 46) rfl rfl rfl (fun W => gdA6 _ _ _ _ _ W) E1.out ?_; simp only [Act.put, List.setIfInBounds_toArray, List.set_cons_zero, List.set_cons_succ]; go_big_quiet_on)
    | (go_big_quiet_want; refine hi_bin8 .eql 23 23 (.tmp 54) (.tmp 55) rfl rfl rfl (fun W => gdA6 _ _ _ _ _ W) E2.out ?_; simp only [Act.put, List.setIfInBounds_toArray, List.set_cons_zero, List.set_cons_succ]; go_big_quiet_on)
    | (go_big_quiet_want; refine hi_bin8 .eql 23 23 (.tmp 59) (.tmp 60) rfl rfl rfl (fun W => gdA6 _ _ _ _ _ W) E3.out ?_; simp only [Act.put, List.setIfInBounds_toArray, List.set_cons_zero, List.set_cons_succ]; go_big_quiet_on)
    | (go_big_quiet_want; go_big_quiet_op; first | go_big_quiet_on | go_big_quiet_call (first | (go_at_call 13; exact Hi.calls (C5.out _)) | (go_at_call 14; exact Hi.calls (C6.out _)) | (go_at_call 15; exact Hi.calls (AW.out _)))))
  refine wpQuiet_nil ?_
  intro _ hw
  obtain ⟨y1, rfl⟩ := hw
  have HBE : Hid (Below w.heap.size w y1.W) := hBw10.trans (y1.below.mono hBw10.size)
  go_wp2
  rw [← HQ.out]
  exact ⟨rfl, HBE.out⟩

set_option maxRecDepth 100000 in
theorem embedPuts_open {H : Type} {enc : TypeId × Value → H} {W : World} {base : Nat} (tb : Tz W ∧ Spc W) (v0 v1 v2 : Value) {d0 d1 d2 : DataW H} {p0 p1 p2 : List MemPlace}
    (o0 : Value.okWide Tryd.prog W .any base 25 v0) (h0 : DataW.Trod enc Tryd.prog W 0 (fun _ => true) true 25 v0 d0 p0)
    (o1 : Value.okWide Tryd.prog W .any base 27 v1) (h1 : DataW.Trod enc Tryd.prog W 0 (fun _ => true) true 27 v1 d1 p1)
    (o2 : Value.okWide Tryd.prog W .any base 27 v2) (h2 : DataW.Trod enc Tryd.prog W 0 (fun _ => true) true 27 v2 d2 p2) :
    Calls Tryd.prog 3 #[v0, v1, v2] W fun e w' => e = .returned (.bool true) ∧ Below W.heap.size W w' := by
  obtain ⟨l, n, rfl, ll, lf, wn⟩ := open_prefix6 h0
  obtain ⟨a0, a1, a2, a3, rfl, g0, g1, g2, g3⟩ := open_addr4 h1
  obtain ⟨b0, b1, b2, b3, rfl, f0, f1, f2, f3⟩ := open_addr4 h2
  exact puts_walk l [a0, a1, a2, a3] [b0, b1, b2, b3] n W tb ll lf (bounds_i64 wn) rfl (fit4 g0 g1 g2 g3) rfl (fit4 f0 f1 f2 f3)

end Go.Proofs.YtfiiopgdgfbkkaaDoor
