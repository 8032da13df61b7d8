/-
  set6 and set4 of the document.
-/
import Derived.Test.YtloadmpappjceaaDoorMc2
namespace Go.Proofs.YtloadmpappjceaaDoor
open Go Go.RowKit
set_option linter.unusedVariables false
set_option linter.unusedSimpArgs false

theorem or_1 (z : Int) (k : Nat) (hk : k < 8) (h : 0 ≤ z ∧ z < 256) : bits .or .u8 z (2 ^ k) = ((setN z.toNat k 1 : Nat) : Int) := by
  have hp : ∀ j, j < 8 → 2 ^ j < 256 := by decide
  have h1 := u8_or_nat z.toNat (2 ^ k) (by omega) (hp k hk)
  rw [← tab_or k hk _ (by omega), ← h1, Int.toNat_of_nonneg h.1]
  simp
theorem bit_v (v m : Nat) (h : v < 18446744073709551616) : bits .and .u64 ((v : Int) / 2 ^ m) 1 = ((bk v m : Nat) : Int) := by
  have := Fld.bit_u64 (v : Int) m (by omega) (by omega)
  rwa [Int.toNat_natCast] at this
theorem setL_same {zs : List Int} (h : FitB zs) (p : Nat) (hp : p < 8 * zs.length) (hb : bitN zs p = 0) : setL zs p 0 = zs := by
  refine row_ext (by simp) (setL_fit h _ _ (by decide)) h fun q hq => ?_
  rw [bitN_setL h p 0 q (by decide) hp]
  by_cases c : q = p
  · rw [if_pos c, c, hb]
  · rw [if_neg c]
theorem tdiv8 (p : Nat) : ((p : Nat) : Int).tdiv 8 = ((p / 8 : Nat) : Int) := by
  rw [show (8 : Int) = ((8 : Nat) : Int) from rfl, ← Int.ofNat_tdiv]
theorem tmod8 (p : Nat) : ((p : Nat) : Int).tmod 8 = ((p % 8 : Nat) : Int) := by
  rw [show (8 : Int) = ((8 : Nat) : Int) from rfl, ← Int.ofNat_tmod]
abbrev A16 (l : List Int) : Value := .agg (b8 l).toArray
theorem blk_b8 {W : World} {b : Nat} {l : List Int} {t : TypeId} (h : W.heap[b]? = some (.cells (b8 l).toArray t)) {j : Nat} (hj : j < l.length) : W.cell? ⟨b, j, none⟩ = some (.int .u8 (l[j]?.getD 0)) := by
  refine blk_cell h ?_
  rw [b8, List.getElem?_map, List.getElem?_eq_getElem hj]
  rfl


set_option maxHeartbeats 4000000 in
set_option maxRecDepth 100000 in
theorem set4_any (l : List Int) (at' n v : Nat) (w : World) (hf : FitB l) (hl : l.length = 4) (hn : n ≤ 64) (ha : at' + n ≤ 32) (hv : v < 18446744073709551616) (hz : ∀ i, i < n → bitN l (at' + i) = 0) :
    Calls Tryd.prog 67 #[A4L l, .int .i64 at', .int .i64 n, .int .u64 v] w fun e w' => e = .returned (A4L (writeL l at' n v n)) ∧ Below w.heap.size w w' := by
  obtain ⟨hb, hb2, hBw⟩ := two_box' w (.cells (b8 l).toArray 27) (.cells zero4L.toArray 27)
  generalize hW : (w.alloc (.cells (b8 l).toArray 27)).alloc (.cells zero4L.toArray 27) = W at *
  have HZ : Hid _ := hz
  have HB : Hid _ := hb
  have HB2 : Hid _ := hb2
  have HBW : Hid _ := hBw
  clear hz hb hb2 hBw
  go_enter Tryd.func67, Tryd.ntmps67
  go_wp2
  go_loopw [9] (fun i wr => ∃ k : Nat, k ≤ n ∧ i = .int .i64 k ∧ wr.heap[w.heap.size]? = some (.cells (b8 (writeL l at' n v k)).toArray 27) ∧ Only w.heap.size W wr) (fun i _ => n - (intOf i).toNat)
  case atStart => exact ⟨0, Nat.zero_le _, rfl, HB.out, Only.refl _ _⟩
  case round =>
    obtain ⟨k, hk, rfl, ho, hO⟩ := hrel
    by_cases hlt : k < n
    · obtain ⟨m, hm⟩ : ∃ m : Nat, m = n - 1 - k := ⟨_, rfl⟩
      have hmi : (n : Int) - 1 - (k : Int) = (m : Int) := by omega
      have hm64 : m < 64 := by omega
      obtain ⟨p, hp⟩ : ∃ p : Nat, p = at' + k := ⟨_, rfl⟩
      have hpi : (at' : Int) + (k : Int) = (p : Int) := by omega
      have hset : writeL l at' n v (k + 1) = setL (writeL l at' n v k) p (bk v m) := by rw [hp, hm]; rfl
      have hxl : (writeL l at' n v k).length = 4 := by simp [hl]
      have hxf : FitB (writeL l at' n v k) := writeL_fit hf _ _ _ _
      have hbit := bit_v v m hv
      have hbt : bitN (writeL l at' n v k) p = 0 := by
        rw [hp, bitN_writeL hf _ _ _ _ _ (by omega), if_neg (by omega)]
        exact HZ.out k hlt
      have hb2 := bk_lt v m
      have hfit := fit_at hxf (p / 8)
      have hcc := blk_b8 ho (j := p / 8) (by omega)
      have hop := blk_open ho (p / 8)
      have h8 := tdiv8 p
      have h9 := tmod8 p
      have h10 : (7 : Int) - ((p % 8 : Nat) : Int) = ((7 - p % 8 : Nat) : Int) := by omega
      have hor := or_1 ((writeL l at' n v k)[p / 8]?.getD 0) (7 - p % 8) (by omega) hfit
      have h256 := pow256 (7 - p % 8) (by omega)
      have hwr := wrap_u8 (7 - p % 8) (by omega)
      have hsetL : setL (writeL l at' n v k) p 1 = (writeL l at' n v k).set (p / 8) ((setN ((writeL l at' n v k)[p / 8]?.getD 0).toNat (7 - p % 8) 1 : Nat) : Int) := rfl
      have hsame := setL_same hxf p (by omega) hbt
      have hst := fun z : Int => blk_set ho (p / 8) (.int .u8 z)
      have hp8 : p / 8 < 4 := by omega
      by_cases hbk : bk v m = 1
      · rw [hbk] at hset hbit
        rw [hsetL] at hset
        generalize hy : writeL l at' n v (k + 1) = y at *
        generalize writeL l at' n v k = x at *
        generalize x[p / 8]?.getD 0 = z at *
        generalize setN z.toNat (7 - p % 8) 1 = s at *
        generalize 7 - p % 8 = r at *
        generalize p / 8 = c at *
        generalize p % 8 = c2 at *
        have HY : Hid _ := hy
        have HS : Hid _ := hset
        have HO : Hid _ := hst
        have HONE : Hid _ := hO.set c (.int .u8 (s : Int))
        clear hy hset hst hO ho hbt hsame hsetL hxl hxf hbk hb2 hfit hp hm HZ
        go_wp2
        refine ⟨⟨k + 1, by omega, by simp, ?_, HONE.out⟩, by simp [intOf]; omega⟩
        rw [HY.out, HS.out, ← b8_set]
        exact HO.out s
      · have hbk0 : bk v m = 0 := by omega
        rw [hbk0, hsame] at hset
        rw [hbk0] at hbit
        generalize hy : writeL l at' n v (k + 1) = y at *
        generalize writeL l at' n v k = x at *
        have HY : Hid _ := hy
        have HS : Hid _ := hset
        have HO : Hid _ := ho
        have HONE : Hid _ := hO
        clear hy hset hst hO ho hbt hsame hsetL hxl hxf hbk hbk0 hb2 hfit hcc hop h8 h9 h10 hor h256 hwr hp hm HZ
        go_wp2
        refine ⟨⟨k + 1, by omega, by simp, ?_, HONE.out⟩, by simp [intOf]; omega⟩
        rw [HY.out, HS.out]
        exact HO.out
    · obtain rfl : k = n := by omega
      have hlen : (b8 (writeL l at' k v k)).length = 4 := by simp [b8_length, hl]
      have HL : Hid _ := agg_load (t := 27) Tryd.isAgg27 Tryd.sizeOf27 hlen (CellsAt.of_blk ho)
      have hR := (hO.other (w.heap.size + 1) (by omega)).trans HB2.out
      obtain ⟨wE, hst, bE, honE⟩ := box_store Tryd.sizeOf27 hR rfl (b8 (writeL l at' k v k)) hlen (b8_one _)
      have HLV : Hid _ := agg_loadVar (t := 27) Tryd.isAgg27 Tryd.sizeOf27 hlen (CellsAt.of_blk bE)
      have HST : Hid _ := hst
      have HBE : Hid (Below w.heap.size w wE) := (HBW.out.trans (hO.below (Nat.le_refl _))).trans (honE.below (by omega))
      clear hst bE honE hR ho hO hlen HZ
      generalize hfin : writeL l at' k v k = fin at *
      have HFIN : Hid _ := hfin
      clear hfin
      go_wp2_with first
        | ((with_reducible show wpList _ _ _ _ _ _); refine armL (.tmp 4) 27 rfl rfl rfl HL.out ?_)
        | ((with_reducible show wpList _ _ _ _ _ _); refine armS (.tmp 8) (.tmp 41) 27 rfl rfl rfl rfl HST.out ?_)
      refine bodyPost_ret (res_cell1 Tryd.results67 rfl HLV.out) rfl ?_
      exact ⟨by rw [HFIN.out] <;> rfl, HBE.out⟩


set_option maxHeartbeats 4000000 in
set_option maxRecDepth 100000 in
theorem set6_any (l : List Int) (at' n v : Nat) (w : World) (hf : FitB l) (hl : l.length = 16) (hn : n ≤ 64) (ha : at' + n ≤ 128) (hv : v < 18446744073709551616) (hz : ∀ i, i < n → bitN l (at' + i) = 0) :
    Calls Tryd.prog 66 #[A16 l, .int .i64 at', .int .i64 n, .int .u64 v] w fun e w' => e = .returned (A16 (writeL l at' n v n)) ∧ Below w.heap.size w w' := by
  obtain ⟨hb, hb2, hBw⟩ := two_box' w (.cells (b8 l).toArray 23) (.cells zero16V.toArray 23)
  generalize hW : (w.alloc (.cells (b8 l).toArray 23)).alloc (.cells zero16V.toArray 23) = W at *
  have HZ : Hid _ := hz
  have HB : Hid _ := hb
  have HB2 : Hid _ := hb2
  have HBW : Hid _ := hBw
  clear hz hb hb2 hBw
  go_enter Tryd.func66, Tryd.ntmps66
  go_wp2
  go_loopw [9] (fun i wr => ∃ k : Nat, k ≤ n ∧ i = .int .i64 k ∧ wr.heap[w.heap.size]? = some (.cells (b8 (writeL l at' n v k)).toArray 23) ∧ Only w.heap.size W wr) (fun i _ => n - (intOf i).toNat)
  case atStart => exact ⟨0, Nat.zero_le _, rfl, HB.out, Only.refl _ _⟩
  case round =>
    obtain ⟨k, hk, rfl, ho, hO⟩ := hrel
    by_cases hlt : k < n
    · obtain ⟨m, hm⟩ : ∃ m : Nat, m = n - 1 - k := ⟨_, rfl⟩
      have hmi : (n : Int) - 1 - (k : Int) = (m : Int) := by omega
      have hm64 : m < 64 := by omega
      obtain ⟨p, hp⟩ : ∃ p : Nat, p = at' + k := ⟨_, rfl⟩
      have hpi : (at' : Int) + (k : Int) = (p : Int) := by omega
      have hset : writeL l at' n v (k + 1) = setL (writeL l at' n v k) p (bk v m) := by rw [hp, hm]; rfl
      have hxl : (writeL l at' n v k).length = 16 := by simp [hl]
      have hxf : FitB (writeL l at' n v k) := writeL_fit hf _ _ _ _
      have hbit := bit_v v m hv
      have hbt : bitN (writeL l at' n v k) p = 0 := by
        rw [hp, bitN_writeL hf _ _ _ _ _ (by omega), if_neg (by omega)]
        exact HZ.out k hlt
      have hb2 := bk_lt v m
      have hfit := fit_at hxf (p / 8)
      have hcc := blk_b8 ho (j := p / 8) (by omega)
      have hop := blk_open ho (p / 8)
      have h8 := tdiv8 p
      have h9 := tmod8 p
      have h10 : (7 : Int) - ((p % 8 : Nat) : Int) = ((7 - p % 8 : Nat) : Int) := by omega
      have hor := or_1 ((writeL l at' n v k)[p / 8]?.getD 0) (7 - p % 8) (by omega) hfit
      have h256 := pow256 (7 - p % 8) (by omega)
      have hwr := wrap_u8 (7 - p % 8) (by omega)
      have hsetL : setL (writeL l at' n v k) p 1 = (writeL l at' n v k).set (p / 8) ((setN ((writeL l at' n v k)[p / 8]?.getD 0).toNat (7 - p % 8) 1 : Nat) : Int) := rfl
      have hsame := setL_same hxf p (by omega) hbt
      have hst := fun z : Int => blk_set ho (p / 8) (.int .u8 z)
      have hp8 : p / 8 < 16 := by omega
      by_cases hbk : bk v m = 1
      · rw [hbk] at hset hbit
        rw [hsetL] at hset
        generalize hy : writeL l at' n v (k + 1) = y at *
        generalize writeL l at' n v k = x at *
        generalize x[p / 8]?.getD 0 = z at *
        generalize setN z.toNat (7 - p % 8) 1 = s at *
        generalize 7 - p % 8 = r at *
        generalize p / 8 = c at *
        generalize p % 8 = c2 at *
        have HY : Hid _ := hy
        have HS : Hid _ := hset
        have HO : Hid _ := hst
        have HONE : Hid _ := hO.set c (.int .u8 (s : Int))
        clear hy hset hst hO ho hbt hsame hsetL hxl hxf hbk hb2 hfit hp hm HZ
        go_wp2
        refine ⟨⟨k + 1, by omega, by simp, ?_, HONE.out⟩, by simp [intOf]; omega⟩
        rw [HY.out, HS.out, ← b8_set]
        exact HO.out s
      · have hbk0 : bk v m = 0 := by omega
        rw [hbk0, hsame] at hset
        rw [hbk0] at hbit
        generalize hy : writeL l at' n v (k + 1) = y at *
        generalize writeL l at' n v k = x at *
        have HY : Hid _ := hy
        have HS : Hid _ := hset
        have HO : Hid _ := ho
        have HONE : Hid _ := hO
        clear hy hset hst hO ho hbt hsame hsetL hxl hxf hbk hbk0 hb2 hfit hcc hop h8 h9 h10 hor h256 hwr hp hm HZ
        go_wp2
        refine ⟨⟨k + 1, by omega, by simp, ?_, HONE.out⟩, by simp [intOf]; omega⟩
        rw [HY.out, HS.out]
        exact HO.out
    · obtain rfl : k = n := by omega
      have hlen : (b8 (writeL l at' k v k)).length = 16 := by simp [b8_length, hl]
      have HL : Hid _ := agg_load (t := 23) Tryd.isAgg23 Tryd.sizeOf23 hlen (CellsAt.of_blk ho)
      have hR := (hO.other (w.heap.size + 1) (by omega)).trans HB2.out
      obtain ⟨wE, hst, bE, honE⟩ := box_store Tryd.sizeOf23 hR rfl (b8 (writeL l at' k v k)) hlen (b8_one _)
      have HLV : Hid _ := agg_loadVar (t := 23) Tryd.isAgg23 Tryd.sizeOf23 hlen (CellsAt.of_blk bE)
      have HST : Hid _ := hst
      have HBE : Hid (Below w.heap.size w wE) := (HBW.out.trans (hO.below (Nat.le_refl _))).trans (honE.below (by omega))
      clear hst bE honE hR ho hO hlen HZ
      generalize hfin : writeL l at' k v k = fin at *
      have HFIN : Hid _ := hfin
      clear hfin
      go_wp2_with first
        | ((with_reducible show wpList _ _ _ _ _ _); refine armL (.tmp 4) 23 rfl rfl rfl HL.out ?_)
        | ((with_reducible show wpList _ _ _ _ _ _); refine armS (.tmp 8) (.tmp 41) 23 rfl rfl rfl rfl HST.out ?_)
      refine bodyPost_ret (res_cell1 Tryd.results66 rfl HLV.out) rfl ?_
      exact ⟨by rw [HFIN.out] <;> rfl, HBE.out⟩

end Go.Proofs.YtloadmpappjceaaDoor
