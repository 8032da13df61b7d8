/-
  Ports and Count of the document.
-/
import Derived.Test.YtloadmpappjceaaDoorMa5
namespace Go.Proofs.YtloadmpappjceaaDoor
open Go Go.RowKit
set_option linter.unusedVariables false
set_option linter.unusedSimpArgs false


set_option maxHeartbeats 1000000 in
set_option maxRecDepth 100000 in
theorem RPorts_any (r : Ru) (hr : r.In) (w : World) :
    Calls Tryd.prog 11 #[RV r] w fun e w' => e = .returned (portsE r) ∧ Below w.heap.size w w' := by
  generalize hQ : (fun (e : Ending) (w' : World) => e = .returned (portsE r) ∧ Below w.heap.size w w') = Q
  have HQ : Hid _ := hQ
  clear hQ
  obtain ⟨hb, hb2, hBw⟩ := two_box w (RO r) PSZ
  have HC : Hid _ := fun W => RCheck_r r hr W
  have HLR : Hid _ := (RuAt.of hr hb).ldR
  generalize hW : (w.alloc (RO r)).alloc PSZ = W at *
  by_cases h0 : ckE r = 0
  · have hok := Ru.ok_of hr h0
    have hm := hok.mid
    rw [h0] at HC
    have HSH : Hid _ := fun W => Shared_any r hr hm W
    by_cases hq : 0 < qB r
    · have hE : portsE r = .tuple #[PS r.off (qB r) 0, .bool true, .int .i64 0] := by unfold portsE; rw [if_pos h0, if_pos hq]
      rw [hE] at HQ
      rw [decide_eq_true hq] at HSH
      clear hE h0 hq hok hm
      go_enter Tryd.func11, Tryd.ntmps11
      go_wp2_with first
        | ((with_reducible show wpList _ _ _ _ _ _); refine armL (.tmp 1) 31 rfl rfl rfl HLR.out ?_)
      refine (HC.out _).mono ?_
      rintro e w2 ⟨rfl, hB2⟩
      have HL2 : Hid _ := (RuAt.of hr (blk_on hb hB2)).ldR
      go_wp2_with first
        | ((with_reducible show wpList _ _ _ _ _ _); refine armL (.tmp 1) 31 rfl rfl rfl HL2.out ?_)
      refine (HSH.out _).mono ?_
      rintro e w3 ⟨rfl, hB3⟩
      have hB23 := hB2.trans (hB3.mono hB2.size)
      have c23 := (RuAt.of hr (blk_on hb hB23)).c23
      obtain ⟨wE, hst, hlv, hon⟩ := ps_store (blk_on hb2 hB23) rfl r.off (qB r) 0
      have HST : Hid _ := hst
      have HLV : Hid _ := hlv
      have HBE : Hid (Below w.heap.size w wE) := (hBw.trans (hB23.mono hBw.size)).trans (hon.below (by omega))
      clear hst hlv hon
      generalize r.off = off at *
      generalize qB r = qb at *
      go_wp2_with first
        | ((with_reducible show wpList _ _ _ _ _ _); refine armS (.tmp 2) (.tmp 25) 34 rfl rfl rfl rfl HST.out ?_)
      refine bodyPost_ret (res3c Tryd.results11 rfl HLV.out) rfl ?_
      rw [← HQ.out]
      exact ⟨rfl, HBE.out⟩
    · have hE : portsE r = .tuple #[PS 0 0 0, .bool false, .int .i64 0] := by unfold portsE; rw [if_pos h0, if_neg hq]
      rw [hE] at HQ
      rw [decide_eq_false hq] at HSH
      clear hE h0 hq hok hm
      go_enter Tryd.func11, Tryd.ntmps11
      go_wp2_with first
        | ((with_reducible show wpList _ _ _ _ _ _); refine armL (.tmp 1) 31 rfl rfl rfl HLR.out ?_)
      refine (HC.out _).mono ?_
      rintro e w2 ⟨rfl, hB2⟩
      have HL2 : Hid _ := (RuAt.of hr (blk_on hb hB2)).ldR
      go_wp2_with first
        | ((with_reducible show wpList _ _ _ _ _ _); refine armL (.tmp 1) 31 rfl rfl rfl HL2.out ?_)
      refine (HSH.out _).mono ?_
      rintro e w3 ⟨rfl, hB3⟩
      have hB23 := hB2.trans (hB3.mono hB2.size)
      obtain ⟨wE, hst, hlv, hon⟩ := ps_store (blk_on hb2 hB23) rfl 0 0 0
      have HST : Hid _ := hst
      have HLV : Hid _ := hlv
      have HBE : Hid (Below w.heap.size w wE) := (hBw.trans (hB23.mono hBw.size)).trans (hon.below (by omega))
      clear hst hlv hon
      go_wp2_with first
        | ((with_reducible show wpList _ _ _ _ _ _); refine armS (.tmp 2) (.tmp 21) 34 rfl rfl rfl rfl HST.out ?_)
      refine bodyPost_ret (res3c Tryd.results11 rfl HLV.out) rfl ?_
      rw [← HQ.out]
      exact ⟨rfl, HBE.out⟩
  · have hE : portsE r = .tuple #[PS 0 0 0, .bool false, .int .i64 (ckE r)] := by unfold portsE; rw [if_neg h0]
    rw [hE] at HQ
    have q0 : (ckE r != 0) = true := by simpa using h0
    clear hE h0
    generalize ckE r = ce at *
    go_enter Tryd.func11, Tryd.ntmps11
    go_wp2_with first
      | ((with_reducible show wpList _ _ _ _ _ _); refine armL (.tmp 1) 31 rfl rfl rfl HLR.out ?_)
    refine (HC.out _).mono ?_
    rintro e w2 ⟨rfl, hB2⟩
    obtain ⟨wE, hst, hlv, hon⟩ := ps_store (blk_on hb2 hB2) rfl 0 0 0
    have HST : Hid _ := hst
    have HLV : Hid _ := hlv
    have HBE : Hid (Below w.heap.size w wE) := (hBw.trans (hB2.mono hBw.size)).trans (hon.below (by omega))
    clear hst hlv hon
    go_wp2_with first
      | ((with_reducible show wpList _ _ _ _ _ _); refine armS (.tmp 2) (.tmp 12) 34 rfl rfl rfl rfl HST.out ?_)
    refine bodyPost_ret (res3c Tryd.results11 rfl HLV.out) rfl ?_
    rw [← HQ.out]
    exact ⟨rfl, HBE.out⟩


set_option maxHeartbeats 1000000 in
set_option maxRecDepth 100000 in
theorem RCount_r (r : Ru) (hr : r.In) (w : World) :
    Calls Tryd.prog 13 #[RV r] w fun e w' => e = .returned (countE r) ∧ Below w.heap.size w w' := by
  have hB0 := bA w (RO r)
  have hb := blk_new w (RO r)
  have HC : Hid _ := fun W => RCheck_r r hr W
  have HLR : Hid _ := (RuAt.of hr hb).ldR
  generalize hW : w.alloc (RO r) = W at *
  by_cases h0 : ckE r = 0
  · have hea := (Ru.ok_of hr h0).ea
    have hE : countE r = .tuple #[.int .u64 (2 ^ r.ea.toNat), .int .i64 0] := by unfold countE; rw [if_pos h0]
    obtain ⟨n, hn⟩ := Int.eq_ofNat_of_zero_le hea.1
    rw [hE, hn]
    rw [h0] at HC
    have HN : Hid _ := hn
    clear hE h0
    rw [hn] at hea
    clear hn
    go_enter Tryd.func13, Tryd.ntmps13
    go_wp2_with first
      | ((with_reducible show wpList _ _ _ _ _ _); refine armL (.tmp 1) 31 rfl rfl rfl HLR.out ?_)
    refine (HC.out _).mono ?_
    rintro e w2 ⟨rfl, hB2⟩
    have c22 := (RuAt.of hr (blk_on hb hB2)).c22
    rw [HN.out] at c22
    have k1 : (2 : Int) ^ n ≤ 2 ^ 48 := by
      have : (2 : Nat) ^ n ≤ 2 ^ 48 := Nat.pow_le_pow_right (by decide) (by omega)
      exact_mod_cast this
    have k2 := pow_ge1 n
    have k3 : (2 : Int) ^ 48 = 281474976710656 := by decide
    rw [k3] at k1
    clear k3
    go_wp2
    go_returns
    exact ⟨rfl, hB0.trans (hB2.mono hB0.size)⟩
  · have hE : countE r = .tuple #[.int .u64 0, .int .i64 (ckE r)] := by unfold countE; rw [if_neg h0]
    rw [hE]
    have q0 : (ckE r != 0) = true := by simpa using h0
    clear hE h0
    generalize ckE r = ce at *
    go_enter Tryd.func13, Tryd.ntmps13
    go_wp2_with first
      | ((with_reducible show wpList _ _ _ _ _ _); refine armL (.tmp 1) 31 rfl rfl rfl HLR.out ?_)
    refine (HC.out _).mono ?_
    rintro e w2 ⟨rfl, hB2⟩
    go_wp2
    go_returns
    exact ⟨rfl, hB0.trans (hB2.mono hB0.size)⟩

end Go.Proofs.YtloadmpappjceaaDoor
