/-
  Ports and Count of the program; suffix, Shared and Check of the document.
-/
import Derived.Test.YtloadmpappjceaaDoorFoldF
namespace Go.Proofs.YtloadmpappjceaaDoor
open Go Go.RowKit
set_option linter.unusedVariables false
set_option linter.unusedSimpArgs false

def portsE (r : Ru) : Value := if ckE r = 0 then (if 0 < qB r then .tuple #[PS r.off (qB r) 0, .bool true, .int .i64 0] else .tuple #[PS 0 0 0, .bool false, .int .i64 0]) else .tuple #[PS 0 0 0, .bool false, .int .i64 (ckE r)]
def countE (r : Ru) : Value := if ckE r = 0 then .tuple #[.int .u64 (2 ^ r.ea.toNat), .int .i64 0] else .tuple #[.int .u64 0, .int .i64 (ckE r)]
abbrev PSZ : Obj := .cells [.int .i64 0, .int .i64 0, .int .u16 0].toArray 34

theorem two_box (w : World) (o1 o2 : Obj) : ((w.alloc o1).alloc o2).heap[w.heap.size]? = some o1 ∧ ((w.alloc o1).alloc o2).heap[w.heap.size + 1]? = some o2 ∧ Below w.heap.size w ((w.alloc o1).alloc o2) := by
  have hz : (w.alloc o1).heap.size = w.heap.size + 1 := by simp
  have h2 := blk_new (w.alloc o1) o2
  rw [hz] at h2
  exact ⟨blk_alloc (blk_new w o1) _, h2, (bA w o1).alloc (by simp) _⟩
theorem ps_store {w : World} {R : Nat} {c : List Value} (h : w.heap[R]? = some (.cells c.toArray 34)) (hc : c.length = 3) (o l p : Int) :
    ∃ w', (Instr.storeAt 34 (.pointer (some ⟨R, 0, none⟩)) (PS o l p)).run Tryd.prog w = .ok () w' ∧ (loadVar 34 ⟨R, 0, none⟩).run Tryd.prog w' = .ok (PS o l p) w' ∧ Only R w w' := by
  obtain ⟨wE, hst, bE, honE⟩ := box_store Tryd.sizeOf34 h hc (PSL o l p) rfl (by simp [PSL, Value.oneCell'])
  exact ⟨wE, hst, agg_loadVar (t := 34) Tryd.isAgg34 Tryd.sizeOf34 rfl (CellsAt.of_blk bE), honE⟩

set_option maxHeartbeats 1000000 in
set_option maxRecDepth 100000 in
theorem suffix_any (r : Ru) (hr : r.In) (hm : 0 ≤ r.n4 ∧ r.n4 ≤ 32) (w : World) :
    Calls Tryd.prog 39 #[RV r] w fun e w' => e = .returned (.int .i64 (32 - r.n4)) ∧ Below w.heap.size w w' := by
  have hB0 := bA w (RO r)
  obtain ⟨_, _, _, _, _, c16, c21, c22, c23, _, _⟩ := RuAt.of hr (blk_new w (RO r))
  generalize hW : w.alloc (RO r) = W at *
  generalize r.n4 = n4 at *
  generalize rc r = cs at *
  go_enter Tryd.func39, Tryd.ntmps39
  go_wp2
  go_ret
  exact ⟨rfl, hB0⟩

set_option maxHeartbeats 1000000 in
set_option maxRecDepth 100000 in
theorem Shared_any (r : Ru) (hr : r.In) (hm : r.Mid) (w : World) :
    Calls Tryd.prog 35 #[RV r] w fun e w' => e = .returned (.tuple #[.int .i64 (qB r), .bool (decide (0 < qB r))]) ∧ Below w.heap.size w w' := by
  have hB0 := bA w (RO r)
  have hb := blk_new w (RO r)
  obtain ⟨ldR, _, _, _, _, c22, _⟩ := RuHi.of hr hb
  have HLD : Hid _ := ldR
  have HC : Hid _ := fun W => suffix_any r hr hm.n4 W
  have h1 := hm.n4
  have h2 := hm.ea
  by_cases hq : 0 < r.ea - (32 - r.n4)
  all_goals
    first
      | have e : qB r = r.ea - (32 - r.n4) := by unfold qB hB; omega
      | have e : qB r = 0 := by unfold qB hB; omega
    rw [e]
    generalize hW : w.alloc (RO r) = W at *
    clear ldR hb e
    generalize r.ea = ea at *
    generalize r.n4 = n4 at *
    generalize rc r = cs at *
    go_enter Tryd.func35, Tryd.ntmps35
    go_wp2_with fail
    refine wp_region_hi (by kernel_rfl) (by kernel_rfl) ?_
    repeat (first | go_big_quiet_skip | (go_big_quiet_want; refine hi_load (.tmp 1) 31 rfl rfl HLD.out ?_; simp only [Act.put, List.setIfInBounds_toArray, List.set_cons_zero, List.set_cons_succ]; go_big_quiet_on) | (go_big_quiet_want; go_big_quiet_op; first | go_big_quiet_on | go_big_quiet_call (first | (go_at_call 39; with_reducible exact Hi.calls (HC.out _)))))
    refine wpQuiet_nil ?_
    intro _ hw
    obtain ⟨y, rfl⟩ := hw
    go_wp2
    all_goals first
      | (exfalso; omega)
      | (go_returns; exact ⟨by simp [hq] <;> omega, hB0.trans (y.below.mono hB0.size)⟩)


set_option maxHeartbeats 1000000 in
set_option maxRecDepth 100000 in
theorem Ports_any (r : Ru) (hr : r.In) (w : World) :
    Calls Tryd.prog 10 #[RV r] w fun e w' => e = .returned (portsE r) ∧ Below w.heap.size w w' := by
  generalize hQ : (fun (e : Ending) (w' : World) => e = .returned (portsE r) ∧ Below w.heap.size w w') = Q
  have HQ : Hid _ := hQ
  clear hQ
  obtain ⟨hb, hb2, hBw⟩ := two_box w (RO r) PSZ
  have HC : Hid _ := fun W => Check_any' r hr W
  have HLR : Hid _ := (RuAt.of hr hb).ldR
  generalize hW : (w.alloc (RO r)).alloc PSZ = W at *
  by_cases h0 : ckE r = 0
  · have hok := Ru.ok_of hr h0
    have hm := hok.mid
    rw [h0] at HC
    have HSH : Hid _ := fun W => shared_any r hr hm W
    have HAS : Hid _ := fun W => anySet_any r hr hm W
    by_cases hq : 0 < qB r
    · have hE : portsE r = .tuple #[PS r.off (qB r) 0, .bool true, .int .i64 0] := by unfold portsE; rw [if_pos h0, if_pos hq]
      rw [hE] at HQ
      rw [decide_eq_true hq] at HSH
      clear hE h0 hq hok hm
      go_enter Tryd.func10, Tryd.ntmps10
      go_wp2_with first
        | ((with_reducible show wpList _ _ _ _ _ _); refine armL (.tmp 1) 31 rfl rfl rfl HLR.out ?_)
      refine (HC.out _).mono ?_
      rintro e w2 ⟨rfl, hB2⟩
      have HL2 : Hid _ := (RuAt.of hr (blk_on hb hB2)).ldR
      go_wp2_with first
        | ((with_reducible show wpList _ _ _ _ _ _); refine armL (.tmp 1) 31 rfl rfl rfl HL2.out ?_)
      refine (HSH.out _).mono ?_
      rintro e w3 ⟨rfl, hB3⟩
      have hB23 := hB2.trans (hB3.mono hB2.size)
      have HL3 : Hid _ := (RuAt.of hr (blk_on hb hB23)).ldR
      go_wp2_with first
        | ((with_reducible show wpList _ _ _ _ _ _); refine armL (.tmp 1) 31 rfl rfl rfl HL3.out ?_)
      refine (HAS.out _).mono ?_
      rintro e w4 ⟨rfl, hB4⟩
      have hB24 := hB23.trans (hB4.mono hB23.size)
      obtain ⟨wE, hst, hlv, hon⟩ := ps_store (blk_on hb2 hB24) rfl r.off (qB r) 0
      have HST : Hid _ := hst
      have HLV : Hid _ := hlv
      have HBE : Hid (Below w.heap.size w wE) := (hBw.trans (hB24.mono hBw.size)).trans (hon.below (by omega))
      clear hst hlv hon
      go_wp2_with first
        | ((with_reducible show wpList _ _ _ _ _ _); refine armS (.tmp 2) (.tmp 17) 34 rfl rfl rfl rfl HST.out ?_)
      refine bodyPost_ret (res3c Tryd.results10 rfl HLV.out) rfl ?_
      rw [← HQ.out]
      exact ⟨rfl, HBE.out⟩
    · have hE : portsE r = .tuple #[PS 0 0 0, .bool false, .int .i64 0] := by unfold portsE; rw [if_pos h0, if_neg hq]
      rw [hE] at HQ
      rw [decide_eq_false hq] at HSH
      clear hE h0 hq hok hm
      go_enter Tryd.func10, Tryd.ntmps10
      go_wp2_with first
        | ((with_reducible show wpList _ _ _ _ _ _); refine armL (.tmp 1) 31 rfl rfl rfl HLR.out ?_)
      refine (HC.out _).mono ?_
      rintro e w2 ⟨rfl, hB2⟩
      have HL2 : Hid _ := (RuAt.of hr (blk_on hb hB2)).ldR
      go_wp2_with first
        | ((with_reducible show wpList _ _ _ _ _ _); refine armL (.tmp 1) 31 rfl rfl rfl HL2.out ?_)
      refine (HSH.out _).mono ?_
      rintro e w3 ⟨rfl, hB3⟩
      have hB23 := hB2.trans (hB3.mono hB2.size)
      obtain ⟨wE, hst, hlv, hon⟩ := ps_store (blk_on hb2 hB23) rfl 0 0 0
      have HST : Hid _ := hst
      have HLV : Hid _ := hlv
      have HBE : Hid (Below w.heap.size w wE) := (hBw.trans (hB23.mono hBw.size)).trans (hon.below (by omega))
      clear hst hlv hon
      go_wp2_with first
        | ((with_reducible show wpList _ _ _ _ _ _); refine armS (.tmp 2) (.tmp 15) 34 rfl rfl rfl rfl HST.out ?_)
      refine bodyPost_ret (res3c Tryd.results10 rfl HLV.out) rfl ?_
      rw [← HQ.out]
      exact ⟨rfl, HBE.out⟩
  · have hE : portsE r = .tuple #[PS 0 0 0, .bool false, .int .i64 (ckE r)] := by unfold portsE; rw [if_neg h0]
    rw [hE] at HQ
    have q0 : (ckE r != 0) = true := by simpa using h0
    clear hE h0
    generalize ckE r = ce at *
    go_enter Tryd.func10, Tryd.ntmps10
    go_wp2_with first
      | ((with_reducible show wpList _ _ _ _ _ _); refine armL (.tmp 1) 31 rfl rfl rfl HLR.out ?_)
    refine (HC.out _).mono ?_
    rintro e w2 ⟨rfl, hB2⟩
    obtain ⟨wE, hst, hlv, hon⟩ := ps_store (blk_on hb2 hB2) rfl 0 0 0
    have HST : Hid _ := hst
    have HLV : Hid _ := hlv
    have HBE : Hid (Below w.heap.size w wE) := (hBw.trans (hB2.mono hBw.size)).trans (hon.below (by omega))
    clear hst hlv hon
    go_wp2_with first
      | ((with_reducible show wpList _ _ _ _ _ _); refine armS (.tmp 2) (.tmp 10) 34 rfl rfl rfl rfl HST.out ?_)
    refine bodyPost_ret (res3c Tryd.results10 rfl HLV.out) rfl ?_
    rw [← HQ.out]
    exact ⟨rfl, HBE.out⟩


set_option maxHeartbeats 1000000 in
set_option maxRecDepth 100000 in
theorem Count_any (r : Ru) (hr : r.In) (w : World) :
    Calls Tryd.prog 12 #[RV r] w fun e w' => e = .returned (countE r) ∧ Below w.heap.size w w' := by
  have hB0 := bA w (RO r)
  have hb := blk_new w (RO r)
  have HC : Hid _ := fun W => Check_any' r hr W
  have HLR : Hid _ := (RuAt.of hr hb).ldR
  generalize hW : w.alloc (RO r) = W at *
  by_cases h0 : ckE r = 0
  · have hea := (Ru.ok_of hr h0).ea
    have hE : countE r = .tuple #[.int .u64 (2 ^ r.ea.toNat), .int .i64 0] := by unfold countE; rw [if_pos h0]
    obtain ⟨n, hn⟩ := Int.eq_ofNat_of_zero_le hea.1
    rw [hE, hn]
    rw [h0] at HC
    have HN : Hid _ := hn
    clear hE h0
    rw [hn] at hea
    clear hn
    go_enter Tryd.func12, Tryd.ntmps12
    go_wp2_with first
      | ((with_reducible show wpList _ _ _ _ _ _); refine armL (.tmp 1) 31 rfl rfl rfl HLR.out ?_)
    refine (HC.out _).mono ?_
    rintro e w2 ⟨rfl, hB2⟩
    have c22 := (RuAt.of hr (blk_on hb hB2)).c22
    rw [HN.out] at c22
    have k1 : (2 : Int) ^ n ≤ 2 ^ 48 := by
      have : (2 : Nat) ^ n ≤ 2 ^ 48 := Nat.pow_le_pow_right (by decide) (by omega)
      exact_mod_cast this
    have k2 := pow_ge1 n
    have k3 : (2 : Int) ^ 48 = 281474976710656 := by decide
    rw [k3] at k1
    clear k3
    go_wp2
    go_returns
    exact ⟨rfl, hB0.trans (hB2.mono hB0.size)⟩
  · have hE : countE r = .tuple #[.int .u64 0, .int .i64 (ckE r)] := by unfold countE; rw [if_neg h0]
    rw [hE]
    have q0 : (ckE r != 0) = true := by simpa using h0
    clear hE h0
    generalize ckE r = ce at *
    go_enter Tryd.func12, Tryd.ntmps12
    go_wp2_with first
      | ((with_reducible show wpList _ _ _ _ _ _); refine armL (.tmp 1) 31 rfl rfl rfl HLR.out ?_)
    refine (HC.out _).mono ?_
    rintro e w2 ⟨rfl, hB2⟩
    go_wp2
    go_returns
    exact ⟨rfl, hB0.trans (hB2.mono hB0.size)⟩

end Go.Proofs.YtloadmpappjceaaDoor
