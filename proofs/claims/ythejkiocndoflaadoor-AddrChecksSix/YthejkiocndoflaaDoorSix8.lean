/-
  IPv6 prefixes: the document's Cut6.
-/
import Derived.Test.YthejkiocndoflaaDoorSix6
import Derived.Test.YthejkiocndoflaaDoorSix7
namespace Go.Proofs.YthejkiocndoflaaDoor
open Go Go.RowKit
set_option linter.unusedVariables false
set_option linter.unusedSimpArgs false

set_option maxHeartbeats 4000000 in
set_option maxRecDepth 100000 in
theorem RCut6_yes (l : List Int) (n : Nat) (w : World) (hf : FitB l) (hl : l.length = 16) (hn : n ≤ 128) :
    Calls Tryd.prog 45 #[A6 l, .int .i64 n] w fun e w' => e = .returned (.tuple #[P6 (blR n l) n, .int .i64 0]) ∧ Below w.heap.size w w' := by
  have hlen : (blR n l).length = 16 := by rw [blR_length, hl]
  have HG : Hid (∀ zo, OwnG ((w.alloc (.cells (u8s l).toArray 31)).alloc zo) w.heap.size l) := fun zo => OwnG.of_blk (blk_alloc (blk_new _ _) zo)
  have HB : Hid (∀ zo, Below w.heap.size w ((w.alloc (.cells (u8s l).toArray 31)).alloc zo)) := fun zo => ((Below.refl _ w).alloc (Nat.le_refl _) _).alloc (by simp) _
  have HR : Hid (∀ zo, ((w.alloc (.cells (u8s l).toArray 31)).alloc zo).heap[w.heap.size + 1]? = some zo) := fun zo => by
    have := blk_new (w.alloc (.cells (u8s l).toArray 31)) zo
    rwa [World.size_alloc] at this
  have hend := clr_blR hf n (by omega)
  rw [hl, show 8 * 16 = 128 from rfl] at hend
  have HE : Hid _ := hend
  clear hend
  go_enter Tryd.func45, Tryd.ntmps45
  go_wp2
  have hG := HG.out (Obj.cells #[.int .u8 0, .int .u8 0, .int .u8 0, .int .u8 0, .int .u8 0, .int .u8 0, .int .u8 0, .int .u8 0, .int .u8 0, .int .u8 0, .int .u8 0, .int .u8 0, .int .u8 0, .int .u8 0, .int .u8 0, .int .u8 0, .int .i64 0] 40)
  have hB := HB.out (Obj.cells #[.int .u8 0, .int .u8 0, .int .u8 0, .int .u8 0, .int .u8 0, .int .u8 0, .int .u8 0, .int .u8 0, .int .u8 0, .int .u8 0, .int .u8 0, .int .u8 0, .int .u8 0, .int .u8 0, .int .u8 0, .int .u8 0, .int .i64 0] 40)
  have hR := HR.out (Obj.cells #[.int .u8 0, .int .u8 0, .int .u8 0, .int .u8 0, .int .u8 0, .int .u8 0, .int .u8 0, .int .u8 0, .int .u8 0, .int .u8 0, .int .u8 0, .int .u8 0, .int .u8 0, .int .u8 0, .int .u8 0, .int .u8 0, .int .i64 0] 40)
  clear HG HB HR
  generalize (w.alloc (.cells (u8s l).toArray 31)).alloc (Obj.cells #[.int .u8 0, .int .u8 0, .int .u8 0, .int .u8 0, .int .u8 0, .int .u8 0, .int .u8 0, .int .u8 0, .int .u8 0, .int .u8 0, .int .u8 0, .int .u8 0, .int .u8 0, .int .u8 0, .int .u8 0, .int .u8 0, .int .i64 0] 40) = w1 at *
  have HG : Hid _ := hG
  have HB : Hid _ := hB
  have HR : Hid _ := hR
  clear hG hB hR
  go_loopw [6] (fun i wr => ∃ k : Nat, n + k ≤ 128 ∧ i = .int .i64 (n + k : Nat) ∧ OwnG wr w.heap.size (clrL l n k) ∧ Only w.heap.size w1 wr) (fun i _ => 128 - (intOf i).toNat)
  case atStart => exact ⟨0, by omega, rfl, HG.out, Only.refl _ _⟩
  case round =>
    obtain ⟨k, hk, rfl, ho, hO⟩ := hrel
    by_cases hlt : n + k < 128
    · have hset : clrL l n (k + 1) = (clrL l n k).set ((n + k) / 8) ((setN ((clrL l n k)[(n + k) / 8]?.getD 0).toNat (7 - (n + k) % 8) 0 : Nat) : Int) := rfl
      have hfit := fit_at (clrL_fit hf n k) ((n + k) / 8)
      have hlen2 : (clrL l n k).length = 16 := by simp [hl]
      have hcc := ho.cell ((n + k) / 8) (by omega)
      have hop := ho.open ((n + k) / 8)
      have hos := ho.set ((n + k) / 8) (by omega)
      have han := an_one ((clrL l n k)[(n + k) / 8]?.getD 0) (7 - (n + k) % 8) (by omega) hfit
      have hwr := wrap_u8 (7 - (n + k) % 8) (by omega)
      have h256 := pow256 (7 - (n + k) % 8) (by omega)
      generalize hy : clrL l n (k + 1) = y at *
      generalize clrL l n k = x at *
      generalize x[(n + k) / 8]?.getD 0 = z at *
      generalize setN z.toNat (7 - (n + k) % 8) 0 = s at *
      generalize hK : n + k = K at *
      have HY : Hid _ := hy
      have HS : Hid _ := hset
      have HO : Hid _ := hos
      have HK : Hid _ := hK
      clear hy hset hos hK HE HG HB HR
      go_wp2
      go_region
      go_wp2
      refine ⟨⟨k + 1, by have := HK.out; omega, by have := HK.out; simp; omega, ?_, (hO.set _ _).drew⟩, by simp [intOf]; omega⟩
      rw [HY.out, HS.out]
      have ho2 := HO.out (s : Int)
      exact ⟨ho2.typed, ho2.cell⟩
    · obtain rfl : k = 128 - n := by omega
      have hke : n + (128 - n) = 128 := by omega
      rw [HE.out] at ho
      have hR2 := (hO.other (w.heap.size + 1) (by omega)).trans HR.out
      have hB2 := HB.out.trans (hO.below (Nat.le_refl _))
      have hslot := Slot6.zero hR2
      obtain ⟨w3, hst, hres, hbel, _⟩ := hslot.put (blR n l) n hlen
      have hB3 := hbel w.heap.size w (by omega) hB2
      have HL : Hid _ := load6 hlen ho.cells
      have HU : Hid _ := build6 (blR n l) n hlen
      have HS : Hid _ := hst
      have HEN : Hid _ := hres
      clear ho hR2 hO HE HR HB HG hst hres hslot hbel hB2
      rw [hke]
      clear hke
      go_wp2_with first
        | ((with_reducible show wpList _ _ _ _ _ _); refine arm_load rfl (.tmp 2) 31 rfl rfl HL.out ?_)
        | ((with_reducible show wpList _ _ _ _ _ _); refine arm_build rfl 40 [(0, .tmp 31), (1, .tmp 32)] rfl rfl (HU.out _) ?_)
        | ((with_reducible show wpList _ _ _ _ _ _); refine arm_store rfl (.tmp 4) (.tmp 33) 40 rfl rfl rfl HS.out ?_)
      refine bodyPost_ret (res_cell2 rfl rfl HEN.out) rfl ?_
      exact ⟨rfl, hB3⟩

set_option maxHeartbeats 2000000 in
set_option maxRecDepth 100000 in
theorem RCut6_no (l : List Int) (n : Int) (w : World) (hn : n < 0 ∨ 128 < n) (hb : -9223372036854775808 ≤ n ∧ n ≤ 9223372036854775807) :
    Calls Tryd.prog 45 #[A6 l, .int .i64 n] w fun e w' => e = .returned (.tuple #[P6 (List.replicate 16 0) 0, .int .i64 5]) ∧ Below w.heap.size w w' := by
  have HR : Hid (∀ zo, ((w.alloc (.cells (u8s l).toArray 31)).alloc zo).heap[w.heap.size + 1]? = some zo) := fun zo => by
    have := blk_new (w.alloc (.cells (u8s l).toArray 31)) zo
    rwa [World.size_alloc] at this
  have HB : Hid (∀ zo, Below w.heap.size w ((w.alloc (.cells (u8s l).toArray 31)).alloc zo)) := fun zo => ((Below.refl _ w).alloc (Nat.le_refl _) _).alloc (by simp) _
  obtain ⟨w3, hst, hres, hbel, _⟩ := (Slot6.zero (HR.out _)).put (List.replicate 16 0) 0 rfl
  have hB3 := hbel w.heap.size w (by omega) (HB.out _)
  have hbu := buildZ6
  have HS : Hid _ := hst
  have HE : Hid _ := hres
  have HU : Hid _ := hbu
  clear hst hres hbel hbu HR HB
  have ht : (decide (n < 0) || decide (128 < n)) = true := by rcases hn with h | h <;> simp [h]
  go_enter Tryd.func45, Tryd.ntmps45
  rcases hn with hn | hn
  all_goals
    go_wp2_with first
      | ((with_reducible show wpList _ _ _ _ _ _); refine arm_build rfl 40 [] rfl rfl (HU.out _) ?_)
      | ((with_reducible show wpList _ _ _ _ _ _); refine arm_store rfl _ _ 40 rfl rfl rfl HS.out ?_)
    refine bodyPost_ret (res_cell2 rfl rfl HE.out) rfl ?_
    exact ⟨rfl, hB3⟩

set_option maxHeartbeats 4000000 in
set_option maxRecDepth 100000 in
theorem RHas6_calls (l : List Int) (n : Int) (k : List Int) (w : World) (hf : FitB l) (hl : l.length = 16) (kf : FitB k) (kl : k.length = 16) (hb : -9223372036854775808 ≤ n ∧ n ≤ 9223372036854775807) :
    Calls Tryd.prog 41 #[P6 l n, A6 k] w fun e w' => e = .returned (.tuple #[.bool (okP6 l n && has6 l n k), .int .i64 (if okP6 l n then 0 else 22)]) ∧ Below w.heap.size w w' := by
  have hchk := fun w => RCheck6_calls l n w hf hl hb
  have b0 := blk_alloc (blk_new w (.cells (cp6 l n).toArray 40)) (.cells (u8s k).toArray 31)
  have b1 := fun w' => @two_new w (.cells (cp6 l n).toArray 40) (.cells (u8s k).toArray 31) w'
  have HL : Hid _ := loadP6 hl (CellsAt.pfx hl b0).1
  have HB1 : Hid _ := b1
  clear b0 b1
  cases hok : okP6 l n
  · simp only [hok] at hchk
    have HC : Hid _ := hchk
    clear hchk hok
    go_enter Tryd.func41, Tryd.ntmps41
    go_wp2_with ((with_reducible show wpList _ _ _ _ _ _); refine arm_load rfl (.tmp 2) 40 rfl rfl HL.out ?_)
    refine Calls.mono (HC.out _) ?_
    rintro e w2 ⟨rfl, hB2⟩
    have hbl := (HB1.out w2 hB2).1
    go_wp2
    go_ret2
    exact ⟨rfl, hbl⟩
  · simp only [hok] at hchk
    have hn : 0 ≤ n ∧ n ≤ 128 := by simp [okP6] at hok; exact hok.1
    obtain ⟨m, rfl⟩ := Int.eq_ofNat_of_zero_le hn.1
    have hlen : (blR m k).length = 16 := by rw [blR_length, kl]
    have hcut := fun w => RCut6_yes k m w kf kl (by omega)
    have heq : ∀ W, (Op.equalIn 9999 31 (.agg (u8s (blR m k)).toArray) (.agg (u8s l).toArray)).run Tryd.prog W = .ok (has6 l m k) W := fun W => eq_arr16 9997 (blR m k) l (blR_fit kf) hf hlen hl W
    have tk1 := cp6_take l m hl
    have tk2 := cp6_take (blR m k) m hlen
    have sn1 := cp6_get l m hl
    have sn2 := cp6_get (blR m k) m hlen
    rw [Bool.true_and]
    generalize has6 l m k = bb at *
    generalize blR m k = x at *
    have HC : Hid _ := hchk
    have HU : Hid _ := hcut
    clear hchk hok hcut
    go_enter Tryd.func41, Tryd.ntmps41
    go_wp2_with ((with_reducible show wpList _ _ _ _ _ _); refine arm_load rfl (.tmp 2) 40 rfl rfl HL.out ?_)
    refine Calls.mono (HC.out _) ?_
    rintro e w2 ⟨rfl, hB2⟩
    obtain ⟨hbl, bp, bq⟩ := HB1.out w2 hB2
    have HK : Hid _ := load6 kl (CellsAt.of_blk bq)
    have c4 := (CellsAt.pfx hl bp).2.2
    have HP0 : Hid _ := bp
    clear HB1 hB2 HC HL bp bq
    go_wp2_with ((with_reducible show wpList _ _ _ _ _ _); refine arm_load rfl (.tmp 3) 31 rfl rfl HK.out ?_)
    refine Calls.mono (HU.out _) ?_
    rintro e w3 ⟨rfl, hB3⟩
    have hBB := hbl.trans (hB3.mono hbl.size)
    have hslot := Slot6.zero (blk_new w3 _)
    obtain ⟨w4, hst, hres, hbel, _⟩ := hslot.put x m hlen
    have hB4 := hbel w.heap.size w hBB.size (hBB.alloc hBB.size _)
    have hB4' := hbel w3.heap.size w3 (Nat.le_refl _) ((Below.refl _ w3).alloc (Nat.le_refl _) _)
    have HP : Hid _ := loadP6 hl (CellsAt.pfx hl (blk_on (blk_on HP0.out hB3) hB4')).1
    have hq : (Instr.loadAt 40 (.pointer (some ⟨w3.heap.size, 0, none⟩))).run Tryd.prog w4 = .ok (P6 x m) w4 := by simpa [Instr.loadAt, Instr.sureAddr] using hres
    have HQ : Hid _ := hq
    have HS : Hid _ := hst
    clear hq hst hres hslot hbel hB4' hBB hB3 HU HK HP0 c4
    cases bb
    all_goals
      go_wp2_with first
        | ((with_reducible show wpList _ _ _ _ _ _); refine arm_store rfl _ _ 40 rfl rfl rfl HS.out ?_)
        | ((with_reducible show wpList _ _ _ _ _ _); refine arm_load rfl (.tmp 2) 40 rfl rfl HP.out ?_)
        | ((with_reducible show wpList _ _ _ _ _ _); refine arm_load rfl (.tmp 6) 40 rfl rfl HQ.out ?_)
      go_ret2
      exact ⟨rfl, hB4⟩

end Go.Proofs.YthejkiocndoflaaDoor
