/-
  Edge of the document.
-/
import Derived.Test.YtloadmpappjceaaDoorMd1
import Derived.Test.YtloadmpappjceaaDoorMe2
import Derived.Test.YtloadmpappjceaaDoorMa5
namespace Go.Proofs.YtloadmpappjceaaDoor
open Go Go.RowKit
set_option linter.unusedVariables false
set_option linter.unusedSimpArgs false


set_option maxHeartbeats 2000000 in
set_option maxRecDepth 100000 in
theorem REdge_any (r : Ru) (hr : r.In) (v : Nat) (hv : v < 18446744073709551616) (w : World) :
    Calls Tryd.prog 18 #[RV r, .int .u64 v] w fun e w' => e = .returned (edgE r v) ∧ Below w.heap.size w w' := by
  generalize hQ : (fun (e : Ending) (w' : World) => e = .returned (edgE r v) ∧ Below w.heap.size w w') = Q
  have HQ : Hid _ := hQ
  clear hQ
  obtain ⟨hb, hb2, hBw⟩ := two_box' w (RO r) (.cells zeroEL.toArray 45)
  have HC : Hid _ := fun W => RCheck_r r hr W
  have HLR : Hid _ := (RuAt.of hr hb).ldR
  generalize hW : (w.alloc (RO r)).alloc (.cells zeroEL.toArray 45) = W at *
  by_cases h0 : ckE r = 0
  · have hok := Ru.ok_of hr h0
    rw [h0] at HC
    have hea := hok.ea
    obtain ⟨b, hbn⟩ := Int.eq_ofNat_of_zero_le hea.1
    have hb48 : b ≤ 48 := by omega
    have HBN : Hid _ := hbn
    have hsh := cast_shr v b
    by_cases hlt : v < 2 ^ r.ea.toNat
    · have hE : edgE r v = .tuple #[EV (edg r v), .int .i64 0] := by unfold edgE; rw [if_pos h0, if_pos hlt]
      rw [hE] at HQ
      have HEG : Hid _ := fun W => redge_any r hok v hlt W
      have hlt2 : v < 2 ^ b := by rw [hbn, Int.toNat_natCast] at hlt; exact hlt
      have hdv : (v : Int) / 2 ^ b = 0 := by rw [cast_shr, Nat.div_eq_of_lt hlt2]; rfl
      obtain ⟨fin, hfin⟩ : ∃ fin, fin = edC (edg r v) := ⟨_, rfl⟩
      have hflen : fin.length = 41 := by rw [hfin]; exact edg_len hok v
      have hfone : ∀ x ∈ fin, x.oneCell' = true := by rw [hfin]; exact edC_one _
      have HEG2 : Hid (∀ W, Calls Tryd.prog 43 #[RV r, .int .u64 v] W fun e w' => e = .returned (.agg fin.toArray) ∧ Below W.heap.size W w') := fun W => by rw [hfin]; exact HEG.out W
      have HFIN : Hid _ := hfin
      clear hE h0 hsh hlt hlt2 HEG hfin hok hea hbn
      go_enter Tryd.func18, Tryd.ntmps18
      go_wp2_with first
        | ((with_reducible show wpList _ _ _ _ _ _); refine armL (.tmp 2) 31 rfl rfl rfl HLR.out ?_)
      refine (HC.out _).mono ?_
      rintro e w2 ⟨rfl, hB2⟩
      have c22 := (RuAt.of hr (blk_on hb hB2)).c22
      rw [HBN.out] at c22
      have HL2 : Hid _ := (RuAt.of hr (blk_on hb hB2)).ldR
      go_wp2_with first
        | ((with_reducible show wpList _ _ _ _ _ _); refine armL (.tmp 2) 31 rfl rfl rfl HL2.out ?_)
      refine (HEG2.out _).mono ?_
      rintro e w3 ⟨rfl, hB3⟩
      have hB23 := hB2.trans (hB3.mono hB2.size)
      obtain ⟨wE, hst, bE, hon⟩ := box_store Tryd.sizeOf45 (blk_on hb2 hB23) rfl fin hflen hfone
      have HLV : Hid _ := agg_loadVar (t := 45) Tryd.isAgg45 Tryd.sizeOf45 hflen (CellsAt.of_blk bE)
      have HST : Hid _ := hst
      have HBE : Hid (Below w.heap.size w wE) := (hBw.trans (hB23.mono hBw.size)).trans (hon.below (by omega))
      clear hst bE hon
      go_wp2_with first
        | ((with_reducible show wpList _ _ _ _ _ _); refine armS (.tmp 4) (.tmp 22) 45 rfl rfl rfl rfl HST.out ?_)
      refine bodyPost_ret (res2c Tryd.results18 rfl HLV.out) rfl ?_
      rw [← HQ.out]
      exact ⟨by rw [HFIN.out]; rfl, HBE.out⟩
    · have hE : edgE r v = .tuple #[EV zeroEd, .int .i64 101] := by unfold edgE; rw [if_pos h0, if_neg hlt]
      rw [hE] at HQ
      have hlt2 : ¬ v < 2 ^ b := by rw [hbn, Int.toNat_natCast] at hlt; exact hlt
      have hdv : ((v : Int) / 2 ^ b != 0) = true := by
        rw [cast_shr]
        have : 0 < v / 2 ^ b := Nat.div_pos (by omega) (Nat.two_pow_pos b)
        simp
        omega
      clear hE h0 hsh hlt hlt2 hok hea hbn
      go_enter Tryd.func18, Tryd.ntmps18
      go_wp2_with first
        | ((with_reducible show wpList _ _ _ _ _ _); refine armL (.tmp 2) 31 rfl rfl rfl HLR.out ?_)
      refine (HC.out _).mono ?_
      rintro e w2 ⟨rfl, hB2⟩
      have c22 := (RuAt.of hr (blk_on hb hB2)).c22
      rw [HBN.out] at c22
      obtain ⟨wE, hst, bE, hon⟩ := box_store Tryd.sizeOf45 (blk_on hb2 hB2) rfl zeroEL rfl (by decide)
      have HLV : Hid _ := agg_loadVar (t := 45) Tryd.isAgg45 Tryd.sizeOf45 rfl (CellsAt.of_blk bE)
      have HST : Hid _ := hst
      have HBE : Hid (Below w.heap.size w wE) := (hBw.trans (hB2.mono hBw.size)).trans (hon.below (by omega))
      clear hst bE hon
      go_wp2_with first
        | ((with_reducible show wpList _ _ _ _ _ _); refine armS (.tmp 4) (.tmp 19) 45 rfl rfl rfl rfl HST.out ?_)
        | ((with_reducible show wpList _ _ _ _ _ _); refine armV (Op.build 45 #[]) rfl rfl (v := .agg zeroEL.toArray) (by kernel_rfl) ?_)
      refine bodyPost_ret (res2c Tryd.results18 rfl HLV.out) rfl ?_
      rw [← HQ.out]
      exact ⟨rfl, HBE.out⟩
  · have hE : edgE r v = .tuple #[EV zeroEd, .int .i64 (ckE r)] := by unfold edgE; rw [if_neg h0]
    rw [hE] at HQ
    have q0 : (ckE r != 0) = true := by simpa using h0
    clear hE h0
    generalize ckE r = ce at *
    go_enter Tryd.func18, Tryd.ntmps18
    go_wp2_with first
      | ((with_reducible show wpList _ _ _ _ _ _); refine armL (.tmp 2) 31 rfl rfl rfl HLR.out ?_)
    refine (HC.out _).mono ?_
    rintro e w2 ⟨rfl, hB2⟩
    obtain ⟨wE, hst, bE, hon⟩ := box_store Tryd.sizeOf45 (blk_on hb2 hB2) rfl zeroEL rfl (by decide)
    have HLV : Hid _ := agg_loadVar (t := 45) Tryd.isAgg45 Tryd.sizeOf45 rfl (CellsAt.of_blk bE)
    have HST : Hid _ := hst
    have HBE : Hid (Below w.heap.size w wE) := (hBw.trans (hB2.mono hBw.size)).trans (hon.below (by omega))
    clear hst bE hon
    go_wp2_with first
      | ((with_reducible show wpList _ _ _ _ _ _); refine armS (.tmp 4) (.tmp 11) 45 rfl rfl rfl rfl HST.out ?_)
      | ((with_reducible show wpList _ _ _ _ _ _); refine armV (Op.build 45 #[]) rfl rfl (v := .agg zeroEL.toArray) (by kernel_rfl) ?_)
    refine bodyPost_ret (res2c Tryd.results18 rfl HLV.out) rfl ?_
    rw [← HQ.out]
    exact ⟨rfl, HBE.out⟩

end Go.Proofs.YtloadmpappjceaaDoor
