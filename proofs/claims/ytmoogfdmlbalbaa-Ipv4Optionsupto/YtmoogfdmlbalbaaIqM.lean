/-
  The document's Options.
  The document's Pack.
  A source route that is not at its end: route of package ipv4.
  The document's Routed.
  Routed of package ipv4.
  Routed of package ipv4: the walk.
-/
import Derived.Test.YtmoogfdmlbalbaaIoN
namespace Go.Proofs.Ytmoogfdmlbalbaa
open Go Go.RowKit
set_option linter.unusedVariables false
set_option linter.unusedSimpArgs false

theorem optsF_skip (f : Nat) (r : List Int) : optsF f (1 :: r) = optsF f r := by
  cases f with
  | zero => rfl
  | succ f => simp only [optsF, show skipL (1 :: r) = skipL r from rfl]
theorem PreO.skip {ys : List Int} {os : Opts} {r : List Int} {f : Nat} (h : PreO ys os (1 :: r) f) : PreO ys os r f :=
  ⟨by rw [h.eq, optsF_skip], by have := h.fuel; simp at this; omega, by have := h.len; simp at this; omega⟩
theorem PreO.bad2 {ys : List Int} {os : Opts} {rest : List Int} {f : Nat} (h : PreO ys os rest f) (h1 : ¬ (skipL rest = [] ∨ gz (skipL rest) 0 = 0)) (hb : badO (skipL rest)) : (optsF (ys.length + 1) ys).1 = os ∧ (optsF (ys.length + 1) ys).2 = some (skipL rest).length := by
  have hf := h.fuel
  obtain ⟨g, rfl⟩ : ∃ g, f = g + 1 := ⟨f - 1, by omega⟩
  have := h.eq
  rw [optsF_bad h1 hb] at this
  rw [this]
  simp
theorem PreO.fin2 {ys : List Int} {os : Opts} {rest : List Int} {f : Nat} (h : PreO ys os rest f) (h1 : skipL rest = [] ∨ gz (skipL rest) 0 = 0) : (optsF (ys.length + 1) ys).1 = os ∧ (optsF (ys.length + 1) ys).2 = none := by
  have := h.eq
  rw [optsF_fin h1] at this
  rw [this]
  simp
theorem drop_cons {ys : List Int} {k : Nat} (h : k < ys.length) : ys.drop k = gz ys k :: ys.drop (k + 1) := by
  rw [List.drop_eq_getElem_cons h]
  simp [gz, h]
/-- What the document's Options answers. -/
def ROptsPost (ys : List Int) (w : World) (e : Ending) (w' : World) : Prop :=
  ∃ v at' er, e = .returned (.tuple #[v, .int .i64 at', .int .i64 er]) ∧ OptsAt w'.heap.size w' v (optsF (ys.length + 1) ys).1 ∧ Below w.heap.size w w' ∧
    (((optsF (ys.length + 1) ys).2 = none ∧ at' = 0 ∧ er = 0) ∨ (∃ m, (optsF (ys.length + 1) ys).2 = some m ∧ at' = (ys.length : Int) - (m : Nat) ∧ er = 47))

set_option maxHeartbeats 1500000 in
set_option maxRecDepth 100000 in
theorem ROptions_calls (v : Value) (ys : List Int) (w : World) (h : RowC w v ys) (hl : ys.length ≤ 1048576) :
    Calls Try.prog 27 #[v] w fun e w' => ROptsPost ys w e w' := by
  have HR : Hid _ := h
  obtain ⟨_, _, a, kap, rfl, hz⟩ := h
  go_enter Try.func27, Try.ntmps27
  go_wp2
  go_loopw [5, 6] (fun l i wr => ∃ k : Nat, ∃ os ds f, i = .int .i64 k ∧ k ≤ ys.length ∧ OptRow w.heap.size wr.heap.size wr l os ds ∧ Below w.heap.size w wr ∧ PreO ys os (ys.drop k) f ∧ ∃ a n c, l = .slice a n c) (fun _ i _ => ys.length - (intOf i).toNat)
  case atStart => exact ⟨0, [], [], _, rfl, Nat.zero_le _, OptRow.nil _ _ _, Below.refl _ _, PreO.start ys, _, _, _, rfl⟩
  case round =>
    obtain ⟨k, os, ds, f, rfl, hk, hRow, hB, hP, la, ln, lc, rfl⟩ := hrel
    have HEND : Hid (skipL (ys.drop k) = [] ∨ gz (skipL (ys.drop k)) 0 = 0 → ROptsPost ys w (.returned (.tuple #[.slice la ln lc, .int .i64 0, .int .i64 0])) wr) := fun hz => by
      obtain ⟨e1, e2⟩ := hP.fin2 hz
      exact ⟨_, _, _, rfl, by rw [e1]; exact hRow.opts (by have := hP.len; omega), hB, .inl ⟨e2, rfl, rfl⟩⟩
    have HBAD : Hid (¬ (skipL (ys.drop k) = [] ∨ gz (skipL (ys.drop k)) 0 = 0) → badO (skipL (ys.drop k)) → skipL (ys.drop k) = ys.drop k → ROptsPost ys w (.returned (.tuple #[.slice la ln lc, .int .i64 k, .int .i64 47])) wr) := fun hz hb hs => by
      obtain ⟨e1, e2⟩ := hP.bad2 hz hb
      refine ⟨_, _, _, rfl, by rw [e1]; exact hRow.opts (by have := hP.len; omega), hB, .inr ⟨_, e2, ?_, rfl⟩⟩
      rw [hs]
      simp
      omega
    by_cases hlt : k < ys.length
    · obtain ⟨ba, oa, kap', eab, hroom, hba, hcc⟩ := HR.out.some (by omega)
      cases eab
      have hkk : (k : Int) < (ys.length : Int) := by omega
      have x0 := (hB.cell (p := ⟨ba, oa + k, none⟩) hba).trans (hcc k hlt)
      have hf0 := HR.out.fit.gz k
      have hdc := drop_cons hlt
      by_cases h0 : gz ys k = 0
      · have HE : Hid (ROptsPost ys w (.returned (.tuple #[.slice la ln lc, .int .i64 0, .int .i64 0])) wr) := HEND.out (.inr (by rw [hdc, skipL_cons (by omega)]; exact h0))
        have q0 : (gz ys k != 0) = false := by simp [h0]
        clear hRow hP
        generalize gz ys k = z at *
        go_wp2
        go_ret3
        exact HE.out
      · have q0 : (gz ys k != 0) = true := by simp [h0]
        by_cases h1 : gz ys k = 1
        · have q1 : (gz ys k == 1) = true := by simp [h1]
          have HP : Hid (PreO ys os (ys.drop (k + 1)) f) := by rw [hdc, h1] at hP; exact hP.skip
          have HRow : Hid _ := hRow
          have HB : Hid _ := hB
          clear hRow hP hB HEND HBAD hdc
          generalize gz ys k = z at *
          go_wp2
          exact ⟨⟨k + 1, os, ds, f, by simp, by omega, HRow.out, HB.out, HP.out, _, _, _, rfl⟩, by simp [intOf]; omega⟩
        · have q1 : (gz ys k == 1) = false := by simp [h1]
          have hs : skipL (ys.drop k) = ys.drop k := by rw [hdc, skipL_cons h1]
          have hg0 : gz (ys.drop k) 0 = gz ys k := by rw [gz_drop]; rfl
          have hg1 : gz (ys.drop k) 1 = gz ys (k + 1) := by rw [gz_drop]
          have hnz : ¬ (skipL (ys.drop k) = [] ∨ gz (skipL (ys.drop k)) 0 = 0) := by
            rw [hs, hg0]
            intro c
            rcases c with c | c
            · rw [hdc] at c; cases c
            · exact h0 c
          have hld : (ys.drop k).length = ys.length - k := by simp
          have hf1 := HR.out.fit.gz (k + 1)
          have hbo : badO (skipL (ys.drop k)) ↔ (ys.length ≤ k + 1 ∨ gz ys (k + 1) < 2 ∨ (ys.length : Int) < k + gz ys (k + 1)) := by
            rw [hs]
            unfold badO
            rw [hg1, hld]
            omega
          have v1 : IntKind.i64.wrap ((k : Int) + 1) = (k : Int) + 1 := wrapi64 _ (by omega)
          have v2 : IntKind.i64.wrap ((k : Int) + gz ys (k + 1)) = (k : Int) + gz ys (k + 1) := wrapi64 _ (by omega)
          have v3 : IntKind.i64.wrap ((k : Int) + 2) = (k : Int) + 2 := wrapi64 _ (by omega)
          by_cases hb1 : ys.length ≤ k + 1
          · have HE : Hid (ROptsPost ys w (.returned (.tuple #[.slice la ln lc, .int .i64 k, .int .i64 47])) wr) := HBAD.out hnz (hbo.2 (.inl hb1)) hs
            have q2 : decide ((ys.length : Int) ≤ (k : Int) + 1) = true := by simp; omega
            clear hRow hP hbo hnz hs hdc hg0 hg1
            generalize gz ys k = z at *
            go_wp2
            go_ret3
            exact HE.out
          · have q2 : decide ((ys.length : Int) ≤ (k : Int) + 1) = false := by simp; omega
            have i1 : (k : Int) + 1 < (ys.length : Int) := by omega
            have x1 := (hB.cell (p := ⟨ba, oa + (k + 1), none⟩) hba).trans (hcc (k + 1) (by omega))
            by_cases hb2 : gz ys (k + 1) < 2
            · have HE : Hid (ROptsPost ys w (.returned (.tuple #[.slice la ln lc, .int .i64 k, .int .i64 47])) wr) := HBAD.out hnz (hbo.2 (.inr (.inl hb2))) hs
              have q3 : decide (gz ys (k + 1) < 2) = true := by simp [hb2]
              clear hRow hP hbo hnz hs hdc hg0 hg1
              generalize gz ys k = z at *
              generalize gz ys (k + 1) = zn at *
              go_wp2
              go_ret3
              exact HE.out
            · have q3 : decide (gz ys (k + 1) < 2) = false := by simp; omega
              by_cases hb3 : (ys.length : Int) < k + gz ys (k + 1)
              · have HE : Hid (ROptsPost ys w (.returned (.tuple #[.slice la ln lc, .int .i64 k, .int .i64 47])) wr) := HBAD.out hnz (hbo.2 (.inr (.inr hb3))) hs
                have q4 : decide ((ys.length : Int) < (k : Int) + gz ys (k + 1)) = true := by simp [hb3]
                clear hRow hP hbo hnz hs hdc hg0 hg1
                generalize gz ys k = z at *
                generalize gz ys (k + 1) = zn at *
                go_wp2
                go_ret3
                exact HE.out
              · have q4 : decide ((ys.length : Int) < (k : Int) + gz ys (k + 1)) = false := by simp; omega
                have hng : ¬ badO (skipL (ys.drop k)) := fun c => by rcases hbo.1 c with c | c | c <;> omega
                obtain ⟨n, hn⟩ := Int.eq_ofNat_of_zero_le (show 0 ≤ gz ys (k + 1) by omega)
                have HNX : Hid (PreO ys (os ++ [(gz ys k, (ys.drop (k + 2)).take (n - 2))]) (ys.drop (k + n)) (f - 1)) := by
                  have := hP.next hnz hng
                  rwa [hs, hg0, hg1, hn, show ((n : Int)).toNat = n by omega, List.drop_drop, List.drop_drop] at this
                have hn2 : 2 ≤ n ∧ k + n ≤ ys.length := by omega
                rw [hn] at x1 q3 q4 v2
                have HPC : Hid (∀ o, (0 < n - 2 → o = oa + (k + 2)) → BytesAt w.heap.size w (.slice (some ⟨ba, o, none⟩) (n - 2) (kap - (k + 2))) ((ys.drop (k + 2)).take (n - 2))) := fun o ho => piece_at hba HR.out.fit HR.out.len hcc (by omega) ho
                have hplen : ((ys.drop (k + 2)).take (n - 2)).length = n - 2 := by simp; omega
                have hba' : ba < wr.heap.size := Nat.lt_of_lt_of_le hba hB.size
                have hBd := hB.drew.alloc hB.size (.cells #[] 5)
                have hlen' := hP.len
                simp only [List.length_drop] at hlen'
                generalize hz : gz ys k = z at *
                have HZ : Hid _ := hz
                clear hz
                have t0 : (0 : Int) ≤ (k : Int) + 2 := by omega
                have t1 : ((k : Int) + 2).toNat = k + 2 := by omega
                have t2 : ((k : Int) + (n : Int)).toNat = k + n := by omega
                have t3 : (k : Int) + 2 ≤ (k : Int) + (n : Int) := by omega
                have t4 : (k : Int) + (n : Int) ≤ (kap : Int) := by omega
                have t5 : k + n - (k + 2) = n - 2 := by omega
                have t6 : (0 : Int) ≤ (k : Int) + (n : Int) := by omega
                have t7 : (2 : Int) ≤ (n : Int) := by omega
                have hbd1 : Below wr.heap.size wr (wr.drew.alloc (.cells #[] 5)) := (Below.refl wr.heap.size wr).drew.alloc (Nat.le_refl _) _
                obtain ⟨b1, k1, W2, hrun1, hb1, hc1⟩ := copy_run (B := wr.heap.size) ((HPC.out (nxt oa kap (k + 2)) (fun h => by unfold nxt; rw [if_neg (by omega)])).later hB) hbd1 (Nat.le_refl _) (by simp) 25
                rw [hplen] at hrun1
                have hB2 := hBd.trans (hb1.mono hBd.size)
                have y0 := (hB.drew.cell (p := ⟨ba, oa + k, none⟩) hba).trans (hcc k hlt)
                have y1 := (hBd.cell (p := ⟨ba, oa + k, none⟩) hba).trans (hcc k hlt)
                have y2 := (hB2.cell (p := ⟨ba, oa + k, none⟩) hba).trans (hcc k hlt)
                rw [HZ.out] at y0 y1 y2
                have hsz1 : (wr.drew.alloc (.cells #[] 5)).heap.size = wr.heap.size + 1 := by simp
                have hsz2 := hb1.size
                have hby2 : BytesAt W2.heap.size W2 (.slice (some ⟨b1, 0, none⟩) (n - 2) k1) ((ys.drop (k + 2)).take (n - 2)) := by
                  have := hc1.bytes (HPC.out (oa + (k + 2)) (fun _ => rfl)).fit (HPC.out (oa + (k + 2)) (fun _ => rfl)).len
                  rwa [hplen] at this
                have hRow2 : OptRow w.heap.size wr.heap.size W2 (.slice la ln lc) os ds := hRow.keep (Nat.le_refl _) (by omega) (fun j h1 h2 => (hb1.block j (by omega)).trans (hbd1.block j h2))
                have hBa := (Below.refl W2.heap.size W2).alloc (Nat.le_refl _) (.cells #[.int .u8 z, .slice (some ⟨b1, 0, none⟩) (n - 2) k1] 76)
                have hXb := blk_new W2 (.cells [.int .u8 z, .slice (some ⟨b1, 0, none⟩) (n - 2) k1].toArray 76)
                have hRow3 := hRow2.on (by omega) hBa
                have hs3 : (W2.alloc (.cells #[.int .u8 z, .slice (some ⟨b1, 0, none⟩) (n - 2) k1] 76)).heap.size = W2.heap.size + 1 := by simp
                have hB3 := hB2.alloc hB2.size (.cells #[.int .u8 z, .slice (some ⟨b1, 0, none⟩) (n - 2) k1] 76)
                obtain ⟨v6, W6, hrun6, hRow6, hgr6, ⟨ya, yn, yk, rfl⟩⟩ := hRow3.push (X := W2.heap.size) (K := z) (u := .slice (some ⟨b1, 0, none⟩) (n - 2) k1) (D := (ys.drop (k + 2)).take (n - 2)) (by omega) (by have := hB3.size; omega) (blk_cell hXb rfl) (blk_cell hXb rfl) hf0 (hby2.later hBa) (.inr ⟨b1, 0, _, _, rfl, by have := hc1.lo; have := hB.size; omega, by have := hc1.lt; omega, fun e => by have := hRow.gl b1 e; have := hc1.lo; omega⟩) (by omega) 1 42
                have hB6 : Below w.heap.size w W6 := hB3.trans ⟨hgr6.os, hgr6.tape, hgr6.output, hgr6.size, fun j hj => hgr6.block j (by have := hB3.size; omega) (fun e => by have := (hRow.own.lt j e.symm).1; omega)⟩
                have HR1 : Hid _ := hrun1
                have HR6 : Hid _ := hrun6
                have HB6 : Hid _ := hB6
                have HRow6 : Hid _ := hRow6
                have HFIN : Hid (∃ k' : Nat, ∃ os ds f, Value.int .i64 ((k : Int) + (n : Int)) = .int .i64 k' ∧ k' ≤ ys.length ∧ OptRow w.heap.size W6.heap.size W6 (.slice ya yn yk) os ds ∧ Below w.heap.size w W6 ∧ PreO ys os (ys.drop k') f ∧ ∃ a n c, Value.slice ya yn yk = .slice a n c) := ⟨k + n, _, _, _, by simp, hn2.2, hRow6, hB6, HNX.out, _, _, _, rfl⟩
                clear hrun1 hrun6 hB6 hRow6 hgr6 hB3 hs3 hRow3 hXb hBa hRow2 hby2 hb1 hc1 hbd1 hBd hB2 hRow HEND HBAD hP hbo hnz hs hdc hg0 hg1 hng hn hf1 hlen' hB
                unfold nxt at HR1
                by_cases hcap : kap = k + 2
                · have HR1' := HR1.out
                  rw [if_pos hcap] at HR1'
                  have hcapT : (kap = k + 2) = True := eq_true hcap
                  have HRA : Hid _ := HR1'
                  clear HR1' HR1 hcap
                  go_wp2_with fail
                  go_region_law (first | (refine step_appendR (R := fun v w => v = .slice (some ⟨b1, 0, none⟩) (n - 2) k1 ∧ w = W2) rfl _ _ _ _ rfl rfl rfl ⟨_, _, HRA.out, rfl, rfl⟩ ?_; rintro _ _ ⟨rfl, rfl⟩) | (refine step_appendR (R := fun v w => v = .slice ya yn yk ∧ w = W6) rfl _ _ _ _ rfl rfl rfl ⟨_, _, HR6.out, rfl, rfl⟩ ?_; rintro _ _ ⟨rfl, rfl⟩))
                  all_goals
                    go_wp2
                    exact ⟨HFIN.out, by simp [intOf]; omega⟩
                · have HR1' := HR1.out
                  rw [if_neg hcap] at HR1'
                  have HRA : Hid _ := HR1'
                  clear HR1' HR1
                  go_wp2_with fail
                  go_region_law (first | (refine step_appendR (R := fun v w => v = .slice (some ⟨b1, 0, none⟩) (n - 2) k1 ∧ w = W2) rfl _ _ _ _ rfl rfl rfl ⟨_, _, HRA.out, rfl, rfl⟩ ?_; rintro _ _ ⟨rfl, rfl⟩) | (refine step_appendR (R := fun v w => v = .slice ya yn yk ∧ w = W6) rfl _ _ _ _ rfl rfl rfl ⟨_, _, HR6.out, rfl, rfl⟩ ?_; rintro _ _ ⟨rfl, rfl⟩))
                  all_goals
                    go_wp2
                    exact ⟨HFIN.out, by simp [intOf]; omega⟩
    · obtain rfl : k = ys.length := by omega
      have HE : Hid (ROptsPost ys w (.returned (.tuple #[.slice la ln lc, .int .i64 0, .int .i64 0])) wr) := HEND.out (.inl (by simp [skipL]))
      clear hRow hP
      go_wp2
      go_ret3
      exact HE.out

end Go.Proofs.Ytmoogfdmlbalbaa

namespace Go.Proofs.Ytmoogfdmlbalbaa
open Go Go.RowKit
set_option linter.unusedVariables false
set_option linter.unusedSimpArgs false

theorem oTot_prefix {os : Opts} {k : Nat} (hk : k ≤ os.length) : oTot os k ≤ oTot os os.length := by
  have h1 := oTot_mono os k (os.length - k)
  rwa [show k + (os.length - k) = os.length by omega] at h1

def sliceLen (v : Value) : Nat := match v with | .slice _ n _ => n | _ => 0
theorem up4_eq {T m : Nat} (h1 : T + m ≤ up4 T) (h2 : (T + m) % 4 = 0) : up4 T = T + m := by unfold up4 at *; omega
theorem up4_lt {T m : Nat} (h1 : T + m ≤ up4 T) (h2 : (T + m) % 4 ≠ 0) : T + m + 1 ≤ up4 T := by unfold up4 at *; omega

set_option maxHeartbeats 1500000 in
set_option maxRecDepth 100000 in
theorem RPack_calls (v : Value) (os : Opts) (w : World) (h : OptsAt w.heap.size w v os) :
    Calls Try.prog 29 #[v] w fun e w' => PackPost os w e w' := by
  have HO : Hid _ := h
  obtain ⟨hfit, hlen, a, cap, rfl, hz⟩ := h
  go_enter Try.func29, Try.ntmps29
  go_wp2
  go_loopw [4] (fun i wr => ∃ k : Nat, k ≤ os.length ∧ i = .int .i64 k ∧ oAll os k ∧ Below w.heap.size w wr) (fun i _ => os.length - (intOf i).toNat)
  case atStart => exact ⟨0, Nat.zero_le _, rfl, fun j hj => absurd hj (by omega), Below.refl _ _⟩
  case round =>
    obtain ⟨k, hk, rfl, hall, hB⟩ := hrel
    by_cases hlt : k < os.length
    · have hz' := hz
      rcases hz' with hz' | ⟨b, off, rfl, hbn, hc⟩
      · omega
      obtain ⟨c0, s, c1, hs⟩ := hc k hlt
      obtain ⟨_, hdl, sa, sc, rfl, _⟩ := hs
      have x0 := (hB.cell (p := ⟨b, off + k * 2, none⟩) hbn).trans c0
      have x1 := (hB.cell (p := ⟨b, off + k * 2 + 1, none⟩) hbn).trans c1
      have hkk : (k : Int) < (os.length : Int) := by omega
      have hbad : ¬ oGood os k → PackIs os [] 47 := fun hn => .inl ⟨k, hlt, hall, hn, rfl, rfl⟩
      have hgo : oGood os k → oAll os (k + 1) := fun hg => oAll_succ hall hg
      have hfk := hfit k
      have hgd : oGood os k ↔ 2 ≤ oK os k ∧ (oD os k).length ≤ 38 := Iff.rfl
      generalize oGood os k = G at *
      generalize oK os k = K at *
      generalize (oD os k).length = D at *
      have HBAD : Hid _ := hbad
      have HGO : Hid _ := hgo
      have HGD : Hid _ := hgd
      have HB : Hid _ := hB
      clear hbad hgo hgd hc hz c0 c1 hB hall
      by_cases h0 : K < 2
      · have q0 : decide (K < 2) = true := by simp [h0]
        have HI : Hid (PackIs os [] 47) := HBAD.out (fun hg => by have := (HGD.out.1 hg).1; omega)
        clear h0
        go_wp2
        go_ret2
        exact ⟨_, [], _, rfl, RowC.nil _, HB.out, HI.out⟩
      · have q0 : decide (K < 2) = false := by simpa using h0
        by_cases h2 : 38 < D
        · have q2 : decide ((38 : Int) < (D : Int)) = true := by simp; omega
          have HI : Hid (PackIs os [] 47) := HBAD.out (fun hg => by have := (HGD.out.1 hg).2; omega)
          clear h0 h2
          go_wp2
          go_ret2
          exact ⟨_, [], _, rfl, RowC.nil _, HB.out, HI.out⟩
        · have q2 : decide ((38 : Int) < (D : Int)) = false := by simp; omega
          have HG : Hid _ := HGO.out (HGD.out.2 ⟨by omega, by omega⟩)
          clear h0 h2
          go_wp2
          exact ⟨⟨k + 1, by omega, by simp, HG.out, HB.out⟩, by simp [intOf]; omega⟩
    · obtain rfl : k = os.length := by omega
      have HALL : Hid _ := hall
      have HB : Hid _ := hB
      clear hB hall
      go_wp2_with fail
      go_loopw [5, 6] (fun x i wr => ∃ k : Nat, k ≤ os.length ∧ i = .int .i64 k ∧ oTot os k ≤ 40 ∧ wr.ownsRow w.heap.size 5 1 x (oTot os k) (bytesV (oFlat os k)) ∧ Below w.heap.size w wr) (fun _ i _ => os.length - (intOf i).toNat)
      case atStart => exact ⟨0, Nat.zero_le _, rfl, by simp [oTot], World.ownsRow_nil _ _ _ _, HB.out⟩
      case round =>
        obtain ⟨k, hk, rfl, ht, hown, hB⟩ := hrel
        by_cases hlt : k < os.length
        · have hz' := hz
          rcases hz' with hz' | ⟨b, off, rfl, hbn, hc⟩
          · omega
          obtain ⟨c0, s, c1, hs⟩ := hc k hlt
          have hs0 := hs
          obtain ⟨_, hdl, sa, sc, rfl, _⟩ := hs
          have x0 := (hB.cell (p := ⟨b, off + k * 2, none⟩) hbn).trans c0
          have x1 := (hB.cell (p := ⟨b, off + k * 2 + 1, none⟩) hbn).trans c1
          have hkk : (k : Int) < (os.length : Int) := by omega
          have hfk := hfit k
          have hgk := HALL.out k hlt
          have hT1 : oTot os (k + 1) = oTot os k + (2 + (oD os k).length) := rfl
          have hF1 : bytesV (oFlat os (k + 1)) = bytesV (oFlat os k) ++ bytesV [oK os k, ((2 + (oD os k).length : Nat) : Int)] ++ bytesV (oD os k) := by simp [oFlat, bytesV]
          obtain ⟨oxa, oxc, rfl, _⟩ := own_form hown
          have hmany : 40 < oTot os (k + 1) → PackIs os [] 2 := fun hm => .inr (.inl ⟨HALL.out, by have := oTot_prefix (os := os) (k := k + 1) hlt; omega, rfl, rfl⟩)
          have v1 : IntKind.i64.wrap ((oTot os k : Int) + 2) = (oTot os k : Int) + 2 := wrapi64 _ (by omega)
          have v2 : IntKind.i64.wrap ((oTot os k : Int) + 2 + ((oD os k).length : Int)) = (oTot os k : Int) + 2 + ((oD os k).length : Int) := wrapi64 _ (by omega)
          have v3 : IntKind.i64.wrap (2 + ((oD os k).length : Int)) = 2 + ((oD os k).length : Int) := wrapi64 _ (by omega)
          by_cases h40 : 40 < oTot os (k + 1)
          · have HI : Hid (PackIs os [] 2) := hmany h40
            have q : decide ((40 : Int) < (oTot os k : Int) + 2 + ((oD os k).length : Int)) = true := by simp; omega
            have HBB : Hid _ := hB
            clear hB hown hmany hc hz c0 c1 hs0 hF1 hgk
            generalize oTot os k = T at *
            generalize (oD os k).length = D at *
            generalize oK os k = K at *
            go_wp2
            go_ret2
            exact ⟨_, [], _, rfl, RowC.nil _, HBB.out, HI.out⟩
          · have q : decide ((40 : Int) < (oTot os k : Int) + 2 + ((oD os k).length : Int)) = false := by simp; omega
            have v4 : IntKind.u8.wrap (2 + ((oD os k).length : Int)) = 2 + ((oD os k).length : Int) := by rw [IntKind.wrap_u8']; omega
            have hbd : Below wr.heap.size wr (wr.drew.alloc (.cells #[.int .u8 (oK os k), .int .u8 (2 + ((oD os k).length : Int))] 5)) := (Below.refl wr.heap.size wr).drew.alloc (Nat.le_refl _) _
            have hgb : wr.grownBy (wr.drew.alloc (.cells #[.int .u8 (oK os k), .int .u8 (2 + ((oD os k).length : Int))] 5)) none := ⟨hbd.os, hbd.tape, hbd.output, hbd.size, fun j hj _ => hbd.block j hj⟩
            have hown1 := hown.kept hgb (by cases (Value.slice oxa (oTot os k) oxc).ownBlock <;> simp)
            have hnew := bytes_new wr.drew 5 [oK os k, 2 + ((oD os k).length : Int)] #[.int .u8 (oK os k), .int .u8 (2 + ((oD os k).length : Int))] 2 2 (bytes_lit _ _ rfl) rfl (by simp) (fun z hz => by simp at hz; have := hgk.2; omega)
            have hB1 := hB.trans (hbd.mono hB.size)
            obtain ⟨u1, W1, hrun1, hown2, hgr1⟩ := own_bytes_more (w0 := wr.drew.alloc (.cells #[.int .u8 (oK os k), .int .u8 (2 + ((oD os k).length : Int))] 5)) hown1 hB1.size hnew (by omega) 25
            have hB2 : Below w.heap.size w W1 := hB1.grown hgr1 hB1.size (fun j hj => (hown1.lt j hj).1)
            obtain ⟨oxa2, oxc2, rfl, _⟩ := own_form hown2
            obtain ⟨u2, W2, hrun2, hown3, hgr2⟩ := own_bytes_more (w0 := W1) hown2 hB2.size (hs0.later hB2) (by omega) 25
            have hB3 : Below w.heap.size w W2 := hB2.grown hgr2 hB2.size (fun j hj => (hown2.lt j hj).1)
            have y1 := (hB2.cell (p := ⟨b, off + k * 2 + 1, none⟩) hbn).trans c1
            have HFIN : Hid (∃ k' : Nat, k' ≤ os.length ∧ Value.int .i64 ((k : Int) + 1) = .int .i64 k' ∧ oTot os k' ≤ 40 ∧ W2.ownsRow w.heap.size 5 1 u2 (oTot os k') (bytesV (oFlat os k')) ∧ Below w.heap.size w W2) := by
              refine ⟨k + 1, hlt, by simp, by omega, ?_, hB3⟩
              rw [hF1, hT1, show oTot os k + (2 + (oD os k).length) = oTot os k + 2 + (oD os k).length by omega]
              have e : ((2 + (oD os k).length : Nat) : Int) = 2 + ((oD os k).length : Int) := by omega
              rw [e]
              exact hown3
            obtain ⟨oxa3, oxc3, rfl, _⟩ := own_form hown3
            have HR1 : Hid _ := hrun1
            have HR2 : Hid _ := hrun2
            clear hrun1 hrun2 hB3 hown3 hgr2 hB2 hgr1 hown2 hB1 hnew hown1 hgb hbd hmany hF1 hs0 hc hz c0 c1 hB hown hgk hT1
            generalize oTot os k = T at *
            generalize (oD os k).length = D at *
            generalize oK os k = K at *
            go_wp2_with fail
            go_region_law (refine step_appendR (R := fun v w => v = .slice oxa2 (T + 2) oxc2 ∧ w = W1) rfl _ _ _ _ rfl rfl rfl ⟨_, _, HR1.out, rfl, rfl⟩ ?_; rintro _ _ ⟨rfl, rfl⟩)
            all_goals
              go_wp2_with (at_builtin; refine wpList_append_run rfl _ _ _ _ rfl rfl rfl HR2.out ?_)
              exact ⟨HFIN.out, by simp [intOf]; omega⟩
        · obtain rfl : k = os.length := by omega
          have hIs : PackIs os (packR os os.length) 0 := .inr (.inr ⟨HALL.out, ht, rfl, rfl⟩)
          have HIS : Hid (PackIs os (packR os os.length) 0) := hIs
          have hfp : Fit (packR os os.length) := packR_fit hfit HALL.out (fun j hj => by
              rcases hz with hz | ⟨b, off, _, _, hc⟩
              · omega
              · obtain ⟨_, s, _, hs⟩ := hc j hj
                exact hs.fit)
          have HFP : Hid (Fit (packR os os.length)) := hfp
          have HOWN : Hid _ := hown
          have HBB : Hid _ := hB
          have HU : Hid (oTot os os.length ≤ up4 (oTot os os.length)) := by show _ ≤ _; unfold up4; omega
          have hu40 : up4 (oTot os os.length) ≤ 40 := by unfold up4; omega
          have HPL : Hid (∀ m, up4 (oTot os os.length) = oTot os os.length + m → packR os os.length = oFlat os os.length ++ List.replicate m 0) := fun m hm => by
            unfold packR
            rw [hm, Nat.add_sub_cancel_left]
          clear hIs hfp hown hB hz
          generalize oTot os os.length = T at *
          generalize oFlat os os.length = FL at *
          go_wp2_with fail
          go_loopw [5] (fun x wr => ∃ m : Nat, T + m ≤ up4 T ∧ wr.ownsRow w.heap.size 5 1 x (T + m) (bytesV (FL ++ List.replicate m 0)) ∧ Below w.heap.size w wr) (fun x _ => up4 T - sliceLen x)
          case atStart => exact ⟨0, HU.out, by rw [List.replicate_zero, List.append_nil]; exact HOWN.out, HBB.out⟩
          case round =>
            obtain ⟨m, hm, hown, hB⟩ := hrel
            obtain ⟨oxa, oxc, rfl, _⟩ := own_form hown
            by_cases h4 : (T + m) % 4 = 0
            · have q : (((T + m : Nat) : Int) % 4 != 0) = false := by simp; omega
              have e := up4_eq hm h4
              have HRC : Hid (RowC wr (.slice oxa (T + m) oxc) (packR os os.length)) := by
                have hpk := HPL.out m e
                have hf := HFP.out
                rw [hpk] at hf ⊢
                have hb := own_bytes (zs := FL ++ List.replicate m 0) hown hf (by have := hown.1; simp [bytesV] at this; simp; omega)
                refine .of_bytes hb ?_
                rcases hown.2 with ⟨e1, e2⟩ | ⟨g, cap', cur, e1, _, _, h7, _⟩
                · injection e1 with _ e3 e4
                  omega
                · injection e1 with _ e3 e4
                  omega
              have HBF : Hid _ := hB
              generalize T + m = N at *
              clear hown hB hm e h4
              go_wp2
              go_ret2
              exact ⟨_, _, _, rfl, HRC.out, HBF.out, HIS.out⟩
            · have q : (((T + m : Nat) : Int) % 4 != 0) = true := by simp; omega
              have e := up4_lt hm h4
              have hbd : Below wr.heap.size wr (wr.alloc (.cells #[.int .u8 0] 5)) := (Below.refl wr.heap.size wr).alloc (Nat.le_refl _) _
              have hown1 := hown.alloc (.cells #[.int .u8 0] 5)
              have hnew := bytes_new wr 5 [0] #[.int .u8 0] 1 1 (bytes_lit _ _ rfl) rfl (by simp) (fun z hz => by simp at hz; omega)
              have hB1 := hB.trans (hbd.mono hB.size)
              obtain ⟨u1, W1, hrun1, hown2, hgr1⟩ := own_bytes_more (w0 := wr.alloc (.cells #[.int .u8 0] 5)) hown1 hB1.size hnew (by omega) 25
              have hB2 : Below w.heap.size w W1 := hB1.grown hgr1 hB1.size (fun j hj => (hown1.lt j hj).1)
              obtain ⟨oxa2, oxc2, rfl, _⟩ := own_form hown2
              have HFIN : Hid ((∃ m' : Nat, T + m' ≤ up4 T ∧ W1.ownsRow w.heap.size 5 1 (.slice oxa2 (T + m + 1) oxc2) (T + m') (bytesV (FL ++ List.replicate m' 0)) ∧ Below w.heap.size w W1) ∧ up4 T - sliceLen (.slice oxa2 (T + m + 1) oxc2) < up4 T - sliceLen (.slice oxa (T + m) oxc)) := by
                refine ⟨⟨m + 1, by omega, ?_, hB2⟩, by show up4 T - (T + m + 1) < up4 T - (T + m); omega⟩
                rw [List.replicate_succ', ← List.append_assoc]
                simpa [bytesV, Nat.add_assoc] using hown2
              have HR1 : Hid _ := hrun1
              clear hrun1 hB2 hown2 hgr1 hB1 hnew hown1 hbd hB hown e h4 hm
              generalize T + m = N at *
              go_wp2_with (at_builtin; refine wpList_append_run rfl _ _ _ _ rfl rfl rfl HR1.out ?_)
              exact HFIN.out

end Go.Proofs.Ytmoogfdmlbalbaa

namespace Go.Proofs.Ytmoogfdmlbalbaa
open Go Go.RowKit
set_option linter.unusedVariables false
set_option linter.unusedSimpArgs false

def rt (o : Int × List Int) : Bool := (o.1 == 131 || o.1 == 137) && (o.2.length != 0) && decide (gz o.2 0 ≤ 2 + (o.2.length : Int))
def routed (os : Opts) : Bool := os.any rt

set_option maxHeartbeats 1000000 in
set_option maxRecDepth 100000 in
theorem route_calls (K : Int) (d : Value) (D : List Int) (w : World) (h : BytesAt w.heap.size w d D) :
    Calls Try.prog 49 #[.agg #[.int .u8 K, d]] w fun e w' => e = .returned (.bool (rt (K, D))) ∧ Below w.heap.size w w' := by
  have hf := h.fit
  obtain ⟨_, hl, a, k, rfl, hz⟩ := h
  have hB := (Below.refl w.heap.size w).alloc (Nat.le_refl _) (.cells #[.int .u8 K, .slice a D.length k] 76)
  have HBA : Hid (∀ o, Below w.heap.size w (w.alloc o)) := fun o => (Below.refl w.heap.size w).alloc (Nat.le_refl _) o
  unfold rt
  simp only
  by_cases h0 : D.length = 0
  · have e : (D.length != 0) = false := by simp [h0]
    rw [e, Bool.and_false, Bool.false_and]
    have q0 : ((D.length : Int) == 0) = true := by simp; exact List.length_eq_zero_iff.1 h0
    have HB : Hid _ := hB
    clear hz hf hB e
    rw [h0]
    go_enter Try.func49, Try.ntmps49
    go_wp2
    all_goals
      go_ret
      exact ⟨rfl, HBA.out _⟩
  · rcases hz with hz | ⟨b, off, rfl, hlt, hc⟩
    · exact absurd hz h0
    have e : (D.length != 0) = true := by simp [h0]
    have c0 := (hB.cell (p := ⟨b, off, none⟩) hlt).trans (hc 0 (by omega))
    have g0 : D[0]?.getD 0 = gz D 0 := rfl
    rw [g0] at c0
    have gf := hf.gz 0
    have q0 : ((D.length : Int) == 0) = false := by simp; intro c; rw [c] at h0; simp at h0
    have i0 : (0 : Int) < (D.length : Int) := by omega
    have v1 : IntKind.i64.wrap (2 + (D.length : Int)) = 2 + (D.length : Int) := wrapi64 _ (by omega)
    have HB : Hid _ := hB
    clear hc hf g0 h0 hB
    generalize gz D 0 = z at *
    generalize D.length = L at *
    rw [e]
    clear e
    by_cases h1 : K = 131
    · subst h1
      go_enter Try.func49, Try.ntmps49
      go_wp2_with fail
      go_region
      all_goals
        go_wp2
        go_ret
        exact ⟨by simp, (HBA.out _).drew⟩
    · by_cases h2 : K = 137
      · subst h2
        go_enter Try.func49, Try.ntmps49
        go_wp2_with fail
        go_region
        all_goals
          go_wp2
          go_ret
          exact ⟨by simp, (HBA.out _).drew⟩
      · have p1 : (K == 131) = false := by simp [h1]
        have p2 : (K == 137) = false := by simp [h2]
        have p1' : (K != 131) = true := by simp [h1]
        have p2' : (K != 137) = true := by simp [h2]
        rw [p1, p2]
        clear h1 h2 p1 p2
        go_enter Try.func49, Try.ntmps49
        go_wp2
        all_goals
          go_ret
          exact ⟨by simp, HB.out⟩

end Go.Proofs.Ytmoogfdmlbalbaa

namespace Go.Proofs.Ytmoogfdmlbalbaa
open Go Go.RowKit
set_option linter.unusedVariables false
set_option linter.unusedSimpArgs false

set_option maxHeartbeats 1500000 in
set_option maxRecDepth 100000 in
theorem RRouted_calls (v : Value) (ys : List Int) (w : World) (h : RowC w v ys) (hl : ys.length ≤ 1048576) :
    Calls Try.prog 32 #[v] w fun e w' => e = .returned (.bool (routed (optsF (ys.length + 1) ys).1)) ∧ Below w.heap.size w w' := by
  have HRO : Hid _ := ROptions_calls v ys w h hl
  clear h
  go_enter Try.func32, Try.ntmps32
  go_wp2_with fail
  refine Calls.mono HRO.out ?_
  rintro _ w1 ⟨v1, at1, er1, rfl, ho, hb1, _⟩
  clear HRO
  generalize hos : (optsF (ys.length + 1) ys).1 = os at *
  have HOS : Hid _ := hos
  clear hos
  obtain ⟨hfit, hlen, a, cap, rfl, hz⟩ := ho
  go_wp2
  go_loopw [6] (fun i wr => ∃ k : Nat, k ≤ os.length ∧ i = .int .i64 k ∧ routed (os.take k) = false ∧ Below w.heap.size w wr ∧ Below w1.heap.size w1 wr) (fun i _ => os.length - (intOf i).toNat)
  case atStart => exact ⟨0, Nat.zero_le _, rfl, rfl, hb1, Below.refl _ _⟩
  case round =>
    obtain ⟨k, hk, rfl, hno, hB, hB1⟩ := hrel
    by_cases hlt : k < os.length
    · have hkk : (k : Int) < (os.length : Int) := by omega
      have hz' := hz
      rcases hz' with hz' | ⟨b, off, rfl, hbn, hc⟩
      · omega
      obtain ⟨c0, s, c1, hs⟩ := hc k hlt
      have hs2 := hs.later hB1
      have hsf := hs.fit
      have x0 := (hB1.cell (p := ⟨b, off + k * 2, none⟩) hbn).trans c0
      have x1 := (hB1.cell (p := ⟨b, off + k * 2 + 1, none⟩) hbn).trans c1
      have hel : os[k]? = some (oK os k, oD os k) := by
        rw [List.getElem?_eq_getElem hlt]
        simp [oK, oD, List.getElem?_eq_getElem hlt]
      have hstep : rt (oK os k, oD os k) = false → routed (os.take (k + 1)) = false := fun hr => by
        have e : os[k] = (oK os k, oD os k) := by rw [List.getElem?_eq_getElem hlt] at hel; exact Option.some.inj hel
        rw [List.take_succ_eq_append_getElem hlt, e]
        unfold routed at hno ⊢
        rw [List.any_append, hno]
        simp [hr]
      have hyes : rt (oK os k, oD os k) = true → routed os = true := fun hr => by
        unfold routed
        rw [List.any_eq_true]
        exact ⟨_, List.mem_of_getElem? hel, hr⟩
      have HST : Hid _ := hstep
      have HYES : Hid _ := hyes
      have HB : Hid _ := hB
      have HB1 : Hid _ := hB1
      obtain ⟨_, hdl, sa, sc, rfl, hsz⟩ := hs2
      unfold rt at HST HYES
      simp only at HST HYES
      clear hstep hyes hel hc hz c0 c1 hs hB hB1 hno
      generalize oK os k = K at *
      generalize oD os k = D at *
      have hgo : ∀ W, Below w.heap.size w W → Below w1.heap.size w1 W → routed (os.take (k + 1)) = false → (∃ k' : Nat, k' ≤ os.length ∧ Value.int .i64 ((k : Int) + 1) = .int .i64 k' ∧ routed (os.take k') = false ∧ Below w.heap.size w W ∧ Below w1.heap.size w1 W) := fun W h1 h2 h3 => ⟨k + 1, hlt, by simp, h3, h1, h2⟩
      have HGO : Hid _ := hgo
      clear hgo
      by_cases hK : K = 131 ∨ K = 137
      · by_cases h0 : D.length = 0
        · have HN : Hid (routed (os.take (k + 1)) = false) := HST.out (by simp [h0])
          clear hsz HST HYES
          rw [h0] at x1
          rcases hK with rfl | rfl
          all_goals
            go_wp2_with fail
            go_region
            all_goals
              go_wp2
              exact ⟨HGO.out _ HB.out.drew HB1.out.drew HN.out, by simp [intOf]; omega⟩
        · rcases hsz with hsz | ⟨bd, od, rfl, hbd, hcd⟩
          · exact absurd hsz h0
          have z0 : wr.cell? ⟨bd, od, none⟩ = some (.int .u8 (gz D 0)) := hcd 0 (by omega)
          have gf := hsf.gz 0
          have i0 : (0 : Int) < (D.length : Int) := by omega
          have q0 : decide ((0 : Int) < (D.length : Int)) = true := decide_eq_true i0
          have q0n : decide (0 < D.length) = true := decide_eq_true (by omega)
          have i0n : 0 < D.length := by omega
          have i0e : ¬ D.length = 0 := h0
          have v1 : IntKind.i64.wrap (2 + (D.length : Int)) = 2 + (D.length : Int) := wrapi64 _ (by omega)
          have hrt : ((K == 131 || K == 137) && D.length != 0 && decide (gz D 0 ≤ 2 + (D.length : Int))) = decide (gz D 0 ≤ 2 + (D.length : Int)) := by rcases hK with rfl | rfl <;> simp [h0]
          rw [hrt] at HST HYES
          by_cases hr : gz D 0 ≤ 2 + (D.length : Int)
          · have q1 : decide (gz D 0 ≤ 2 + (D.length : Int)) = true := by simp [hr]
            have HY : Hid (routed os = true) := HYES.out q1
            clear HST HYES hr hcd hsf h0 hrt
            generalize gz D 0 = z at *
            generalize D.length = L at *
            rcases hK with rfl | rfl
            all_goals
              go_wp2_with fail
              go_region
              all_goals
                go_wp2
                go_ret
                exact ⟨by rw [HOS.out, HY.out]; rfl, HB.out.drew⟩
          · have q1 : decide (gz D 0 ≤ 2 + (D.length : Int)) = false := by simpa using hr
            have HN : Hid (routed (os.take (k + 1)) = false) := HST.out q1
            clear HST HYES hr hcd hsf h0 hrt
            generalize gz D 0 = z at *
            generalize D.length = L at *
            rcases hK with rfl | rfl
            all_goals
              go_wp2_with fail
              go_region
              all_goals
                go_wp2
                exact ⟨HGO.out _ HB.out.drew HB1.out.drew HN.out, by simp [intOf]; omega⟩
      · have p1 : (K == 131) = false := by simp; exact fun c => hK (.inl c)
        have p2 : (K == 137) = false := by simp; exact fun c => hK (.inr c)
        have HN : Hid (routed (os.take (k + 1)) = false) := HST.out (by rw [p1, p2]; rfl)
        clear HST HYES hsz hsf hK
        generalize D.length = L at *
        go_wp2_with fail
        go_region
        all_goals
          go_wp2
          exact ⟨HGO.out _ HB.out.drew HB1.out.drew HN.out, by simp [intOf]; omega⟩
    · obtain rfl : k = os.length := by omega
      have HY : Hid (routed os = false) := by rw [List.take_length] at hno; exact hno
      have HB : Hid _ := hB
      clear hz hB hB1 hno
      go_wp2
      go_ret
      exact ⟨by rw [HOS.out, HY.out]; rfl, HB.out⟩

end Go.Proofs.Ytmoogfdmlbalbaa

namespace Go.Proofs.Ytmoogfdmlbalbaa
open Go Go.RowKit
set_option linter.unusedVariables false
set_option linter.unusedSimpArgs false

/-- The result's box of Routed. -/
structure BoxR (w0 W : World) (Q : Nat) (x : Bool) : Prop where
  xb : W.heap[Q]? = some (.cells [.bool x].toArray 4)
  bel : Below w0.heap.size w0 W
  up : w0.heap.size ≤ Q
theorem BoxR.start (w : World) : BoxR w (w.alloc (.cells #[.bool false] 4)) w.heap.size false := ⟨blk_new w _, (Below.refl w.heap.size w).alloc (Nat.le_refl _) _, Nat.le_refl _⟩
theorem BoxR.on {w0 W W' : World} {Q : Nat} {x : Bool} (h : BoxR w0 W Q x) (hb : Below W.heap.size W W') : BoxR w0 W' Q x := ⟨blk_on h.xb hb, h.bel.trans (hb.mono h.bel.size), h.up⟩
theorem BoxR.but {w0 W W' : World} {Q R : Nat} {x : Bool} (h : BoxR w0 W Q x) (hb : But R W W') (hR : Q < R) : BoxR w0 W' Q x := ⟨hb.blk h.xb (by omega), h.bel.trans (hb.below (by have := h.up; omega) h.bel.size), h.up⟩
theorem BoxR.set {w0 W : World} {Q : Nat} {x : Bool} (h : BoxR w0 W Q x) (y : Bool) : BoxR w0 (W.setCell ⟨Q, 0, none⟩ (.bool y)) Q y := ⟨by rw [blk_set h.xb]; rfl, h.bel.setCell h.up _, h.up⟩
theorem BoxR.drew {w0 W : World} {Q : Nat} {x : Bool} (h : BoxR w0 W Q x) : BoxR w0 W.drew Q x := ⟨h.xb, h.bel.drew, h.up⟩
theorem BoxR.load {w0 W : World} {Q : Nat} {x : Bool} (h : BoxR w0 W Q x) : (loadVar 4 ⟨Q, 0, none⟩).run Try.prog W = .ok (.bool x) W := by
  have := blk_cell h.xb (j := 0) rfl
  simp [loadVar, go_sem, this]
theorem tmps9 (a : Value) : (#[a] ++ Array.replicate (9 - #[a].size) undef : Array Value) = #[a, undef, undef, undef, undef, undef, undef, undef, undef] := rfl

set_option maxHeartbeats 2000000 in
set_option maxRecDepth 100000 in
theorem catch_idleR (p : Addr) (w : World) :
    CallsD Try.prog 48 #[.pointer (some p)] .returning w fun e u' w' => e = .returned (.tuple #[]) ∧ u' = .returning ∧ Below w.heap.size w w' := by
  have hB := Below.refl w.heap.size w
  have hB2 := fun o => (Below.refl w.heap.size w).alloc (Nat.le_refl _) o
  have ht := ta_no w
  refine callsD_of_wpS Try.func48 rfl fun c₀ cs hu => ?_
  apply wpS_seq
  refine wpS_region_rec (v := .nilIface) (cs' := c₀ :: cs) rfl rfl (by simp [recoverD, hu]) ?_
  simp only [Try.ntmps48, tmps9, Act.put, List.setIfInBounds_toArray, List.set_cons_zero, List.set_cons_succ]
  go_wp2
  refine wpS_of_wp ?_
  go_wp2
  cases c₀
  simp_all [bodyPostS, results, Try.results48]

set_option maxHeartbeats 2000000 in
set_option maxRecDepth 100000 in
theorem catch_faultR (w0 : World) (Q : Nat) (x : Bool) (at' e : Int) (w : World) (h : BoxR w0 w Q x) :
    CallsD Try.prog 48 #[.pointer (some ⟨Q, 0, none⟩)] (.panicking [{ v := .iface 59 (.agg #[.int .i64 at', .int .i64 e]), recovered := false }]) w fun e' u' w' => e' = .returned (.tuple #[]) ∧ u' = .panicking [{ v := .iface 59 (.agg #[.int .i64 at', .int .i64 e]), recovered := true }] ∧ BoxR w0 w' Q false := by
  have ht := ta_yes (.agg #[.int .i64 at', .int .i64 e]) w
  refine callsD_of_wpS Try.func48 rfl fun c₀ cs hu => ?_
  apply wpS_seq
  refine wpS_region_rec (v := .iface 59 (.agg #[.int .i64 at', .int .i64 e])) (cs' := { c₀ with mode := .panicking [{ v := .iface 59 (.agg #[.int .i64 at', .int .i64 e]), recovered := true }] } :: cs) rfl rfl (by simp [recoverD, hu]) ?_
  simp only [Try.ntmps48, tmps9, Act.put, List.setIfInBounds_toArray, List.set_cons_zero, List.set_cons_succ]
  have h1 := h.on ((Below.refl w.heap.size w).alloc (Nat.le_refl _) (.cells #[.int .i64 at', .int .i64 e] 59))
  have HE : Hid _ := h1.set false
  have m0 := blk_cell h1.xb (j := 0) rfl
  have n0 := blk_open h1.xb 0
  clear h h1
  go_wp2
  refine wpS_of_wp ?_
  go_wp2
  exact ⟨rfl, _, rfl, _, results_none rfl _ _ _, rfl, rfl, HE.out⟩

end Go.Proofs.Ytmoogfdmlbalbaa

namespace Go.Proofs.Ytmoogfdmlbalbaa
open Go Go.RowKit
set_option linter.unusedVariables false
set_option linter.unusedSimpArgs false

theorem routed_snoc {os : Opts} {o : Int × List Int} (h : routed os = false) (ho : rt o = false) : routed (os ++ [o]) = false := by
  unfold routed at *
  rw [List.any_append, h]
  simp [ho]
theorem PreO.fin3 {ys : List Int} {os : Opts} {rest : List Int} {f : Nat} (h : PreO ys os rest f) (h1 : skipL rest = [] ∨ gz (skipL rest) 0 = 0) : (optsF (ys.length + 1) ys).1 = os := by
  have := h.eq
  rw [optsF_fin h1] at this
  rw [this]
  simp
theorem PreO.bad3 {ys : List Int} {os : Opts} {rest : List Int} {f : Nat} (h : PreO ys os rest f) (h1 : ¬ (skipL rest = [] ∨ gz (skipL rest) 0 = 0)) (hb : badO (skipL rest)) : (optsF (ys.length + 1) ys).1 = os := by
  have hf := h.fuel
  obtain ⟨g, rfl⟩ : ∃ g, f = g + 1 := ⟨f - 1, by omega⟩
  have := h.eq
  rw [optsF_bad h1 hb] at this
  rw [this]
  simp
theorem PreO.has {ys : List Int} {os : Opts} {o : Int × List Int} {rest : List Int} {f : Nat} (h : PreO ys (os ++ [o]) rest f) (hr : rt o = true) : routed (optsF (ys.length + 1) ys).1 = true := by
  rw [h.eq]
  unfold routed
  rw [List.any_eq_true]
  exact ⟨o, by simp, hr⟩

/-- The loop's state. -/
def LoopR (w : World) (R : Nat) (ys : List Int) (o m : Value) (wr : World) : Prop :=
  ∃ os O, o = .pointer (some ⟨O, 0, none⟩) ∧ BoxR w wr w.heap.size false ∧ R + 1 ≤ O ∧ O < wr.heap.size ∧ routed os = false ∧
    ((m = .bool false ∧ (optsF (ys.length + 1) ys).1 = os) ∨
     (m = .bool true ∧ ∃ K d D rest s f, wr.heap[O]? = some (.cells [.int .u8 K, d].toArray 76) ∧ BytesAt w.heap.size w d D ∧ RowC w s rest ∧ ListW w wr R s ys.length ∧ PreO ys (os ++ [(K, D)]) rest f))
theorem LoopR.of_next {w W : World} {R : Nat} {ys rest : List Int} {os : Opts} {f O : Nat} {K : Int} {d : Value} {m : Bool} (hB : BoxR w W w.heap.size false) (h1 : R + 1 ≤ O) (h2 : O < W.heap.size) (hno : routed os = false) (hP : PreO ys os rest f) (hO : W.heap[O]? = some (.cells [.int .u8 K, d].toArray 76)) (hN : NxO w W R ys.length rest K d m) :
    LoopR w R ys (.pointer (some ⟨O, 0, none⟩)) (.bool m) W := by
  refine ⟨os, O, rfl, hB, h1, h2, hno, ?_⟩
  rcases hN with ⟨rfl, hz⟩ | ⟨rfl, hz, hb, rfl, hd, s', hr, hL⟩
  · exact .inl ⟨rfl, hP.fin3 hz⟩
  · exact .inr ⟨rfl, _, d, _, _, s', _, hO, hd, hr, hL, hP.next hz hb⟩

theorem resR {P : Program} {fn : Func} {a : Tmp} {t : TypeId} (h : fn.results = #[.cell a t]) {tmps : Array Value} {R : Addr} (hp : tmps.getD a undef = .pointer (some R)) {v : Value} {w : World} (hl : (loadVar t R).run P w = .ok v w) :
    (results fn tmps).run P w = .ok v w := by
  rw [Array.getD_eq_getD_getElem?] at hp
  simp [results, h, hp, asAddr, hl]

set_option maxHeartbeats 1500000 in
set_option maxRecDepth 100000 in
theorem Routed_calls (v : Value) (ys : List Int) (w : World) (h : RowC w v ys) (hl : ys.length ≤ 1048576) :
    Calls Try.prog 31 #[v] w fun e w' => e = .returned (.bool (routed (optsF (ys.length + 1) ys).1)) ∧ Below w.heap.size w w' := by
  have hmf : ∀ (fn : Fn) (first cap : Array Value) (w : World), (Instr.makeFunc fn first cap).run Try.prog w = .ok (.func fn first cap) w := fun _ _ _ _ => rfl
  have hBX := BoxR.start w
  have HLI : Hid _ := listed_calls v ys _ (h.on hBX.bel)
  have HBX : Hid _ := hBX
  have HR0 : Hid _ := h
  clear hBX h
  rw [show (w.alloc (.cells #[.bool false] 4)).heap.size = w.heap.size + 1 by simp] at HLI
  generalize hW0 : w.alloc (.cells #[.bool false] 4) = W0 at *
  go_enter_defers Try.func31, Try.ntmps31
  go_wp2_with fail
  refine Calls.mono HLI.out ?_
  rintro _ w1 ⟨rfl, hL1, hb1⟩
  have hsz0 : W0.heap.size = w.heap.size + 1 := by rw [← hW0]; simp
  clear hW0
  have HB1 : Hid (BoxR w w1 w.heap.size false) := HBX.out.on (by rw [hsz0]; exact hb1)
  have HL1 : Hid (ListW w w1 (w.heap.size + 1) v ys.length) := ⟨hL1.blk, by omega, HB1.out.bel⟩
  generalize hR : w.heap.size + 1 = R at *
  have HNX : Hid _ := next_calls (w := w) HR0.out HL1.out (Nat.le_refl _) (by omega)
  have HLT1 : Hid (R < w1.heap.size) := (Array.getElem?_eq_some_iff.1 hL1.blk).1
  clear hL1 hb1 hsz0 HLI HBX W0
  go_wp2_with fail
  refine Calls.mono HNX.out ?_
  rintro e2 w2 h2
  rcases h2.split (by omega) HL1.out.bel with ⟨hz, hbad, rfl, hb2, hB2⟩ | ⟨K, da, dn, dc, m, rfl, hb2, hB2, hN2⟩
  · have hBO := HB1.out.but hB2 (by omega)
    have HOI : Hid ((optsF (ys.length + 1) ys).1 = []) := (PreO.start ys).bad3 hz hbad
    refine leaves_cons (f := 48) (args := #[.pointer (some ⟨w.heap.size, 0, none⟩)]) (by simp) (by simp [go_sem]) ?_
    refine (catch_faultR w w.heap.size _ _ 47 _ hBO).mono ?_
    rintro e9 u9 w9 ⟨rfl, rfl, h9⟩
    exact ⟨_, resR rfl rfl h9.load, by rw [HOI.out]; rfl, h9.bel⟩
  · have hBa := (Below.refl w2.heap.size w2).alloc (Nat.le_refl _) (.cells #[.int .u8 K, .slice da dn dc] 76)
    have HST : Hid (LoopR w R ys (.pointer (some ⟨w2.heap.size, 0, none⟩)) (.bool m) (w2.alloc (.cells #[.int .u8 K, .slice da dn dc] 76))) := by
      refine LoopR.of_next (os := []) ((HB1.out.but hB2 (by omega)).on hBa) ?_ (by simp) rfl (PreO.start ys) (blk_new w2 _) ?_
      · have := HLT1.out
        have := hB2.size
        omega
      · rcases hN2 with h | ⟨h1, h2, h3, h4, h5, s', h6, h7⟩
        · exact .inl h
        · exact .inr ⟨h1, h2, h3, h4, h5, s', h6, h7.on hBa⟩
    clear hBa hN2 hb2 hB2 HNX HL1 HB1 HLT1 h2
    go_wp2_with fail
    go_loopw [4, 5] (fun o m wr => LoopR w R ys o m wr) (fun _ m wr => measO R m wr)
    case atStart => exact HST.out
    case round =>
      obtain ⟨os, O, rfl, hB, hO1, hO2, hno, hm⟩ := hrel
      have m0 := blk_cell hB.xb (j := 0) rfl
      have n0 := blk_open hB.xb 0
      rcases hm with ⟨rfl, hIs⟩ | ⟨rfl, K', d', D', rest, s', f, hOb, hd', hr', hL', hP⟩
      · have HE : Hid _ := hB.set false
        have HIS : Hid (routed (optsF (ys.length + 1) ys).1 = false) := by rw [hIs]; exact hno
        clear hB hIs hno
        go_wp2
        refine leaves_cons (f := 48) (args := #[.pointer (some ⟨w.heap.size, 0, none⟩)]) (by simp) (by simp [go_sem]) ?_
        refine (catch_idleR _ _).mono ?_
        rintro e9 u9 w9 ⟨rfl, rfl, hb9⟩
        have h9 := HE.out.on hb9
        exact ⟨_, resR rfl rfl h9.load, by rw [HIS.out], h9.bel⟩
      · have k0 := blk_cell hOb (j := 0) rfl
        have k1 := blk_cell hOb (j := 1) rfl
        have HRT : Hid _ := route_calls K' d' D' wr (hd'.later hB.bel)
        have hrt1 : rt (K', D') = true → routed (optsF (ys.length + 1) ys).1 = true := fun hr => hP.has hr
        have hrt2 : rt (K', D') = false → routed (os ++ [(K', D')]) = false := fun hr => routed_snoc hno hr
        have HRT1 : Hid _ := hrt1
        have HRT2 : Hid _ := hrt2
        have HLL : Hid (leftLen wr R = rest.length) := hL'.leftLen hr'
        have HOB : Hid _ := hOb
        have HBX : Hid _ := hB
        have HR' : Hid _ := hr'
        have HL' : Hid _ := hL'
        have HP : Hid _ := hP
        obtain ⟨_, _, xa, xc, hde, _⟩ := hd'
        generalize D'.length = Dn at hde
        subst hde
        clear hB hL' hP hr' hOb hrt1 hrt2 hno
        generalize rt (K', D') = r at *
        go_wp2_with fail
        refine Calls.mono HRT.out ?_
        rintro _ w3 ⟨rfl, hb3⟩
        have hB3 := HBX.out.on hb3
        have m3 := blk_cell hB3.xb (j := 0) rfl
        have n3 := blk_open hB3.xb 0
        have hOb3 := blk_on HOB.out hb3
        have k0' := blk_cell hOb3 (j := 0) rfl
        have k1' := blk_cell hOb3 (j := 1) rfl
        have hsz3 := hb3.size
        cases r with
        | true =>
          have HE : Hid _ := hB3.set true
          have HY : Hid (routed (optsF (ys.length + 1) ys).1 = true) := HRT1.out rfl
          clear hB3 hOb3 hb3 HRT1 HRT2
          go_wp2
          refine leaves_cons (f := 48) (args := #[.pointer (some ⟨w.heap.size, 0, none⟩)]) (by simp) (by simp [go_sem]) ?_
          refine (catch_idleR _ _).mono ?_
          rintro e9 u9 w9 ⟨rfl, rfl, hb9⟩
          have h9 := HE.out.on hb9
          exact ⟨_, resR rfl rfl h9.load, by rw [HY.out], h9.bel⟩
        | false =>
          have HNO : Hid (routed (os ++ [(K', D')]) = false) := HRT2.out rfl
          have hBa := (Below.refl w3.heap.size w3).alloc (Nat.le_refl _) (.cells #[.int .u8 K', .slice xa Dn xc] 76)
          have HB8 : Hid _ := hB3.on hBa
          have HL8 : Hid _ := (HL'.out.on hb3).on hBa
          have HNb : Hid _ := blk_new w3 (.cells [.int .u8 K', .slice xa Dn xc].toArray 76)
          have hlen' := HP.out.len
          simp only [List.length_append, List.length_cons, List.length_nil] at hlen'
          have HNX : Hid _ := next_calls (w := w) HR'.out HL8.out (by omega) (by omega)
          have HS8 : Hid ((w3.alloc (.cells #[.int .u8 K', .slice xa Dn xc] 76)).heap.size = w3.heap.size + 1) := by show _ = _; simp
          clear hB3 hOb3 hb3 hBa HRT1 HRT2
          go_wp2_with fail
          refine Calls.mono HNX.out ?_
          rintro e9 w9 h9
          rcases h9.split (by omega) HL8.out.bel with ⟨hz, hbad, rfl, hb9, hB9⟩ | ⟨K9, ea, en, ec, m9, rfl, hb9, hB9, hN9⟩
          · have hBO := HB8.out.but hB9 (by omega)
            have HOI : Hid ((optsF (ys.length + 1) ys).1 = os ++ [(K', D')]) := HP.out.bad3 hz hbad
            refine leaves_cons (f := 48) (args := #[.pointer (some ⟨w.heap.size, 0, none⟩)]) (by simp) (by simp [go_sem]) ?_
            refine (catch_faultR w w.heap.size _ _ 47 _ hBO).mono ?_
            rintro e10 u10 w10 ⟨rfl, rfl, h10⟩
            exact ⟨_, resR rfl rfl h10.load, by rw [HOI.out, HNO.out], h10.bel⟩
          · have hsz8 := HS8.out
            have hsz9 := hB9.size
            have hOb9 := hB9.blk HNb.out (by omega)
            have l0 := blk_cell hOb9 (j := 0) rfl
            have l1 := blk_cell hOb9 (j := 1) rfl
            have p0 := blk_open hOb9 0
            have p1 := blk_open hOb9 1
            have hO10 := ((Only.refl w3.heap.size w9).set 0 (.int .u8 K9)).set 1 (.slice ea en ec)
            have hOb10 : ((w9.setCell ⟨w3.heap.size, 0, none⟩ (.int .u8 K9)).setCell ⟨w3.heap.size, 1, none⟩ (.slice ea en ec)).heap[w3.heap.size]? = some (.cells [.int .u8 K9, .slice ea en ec].toArray 76) := by rw [blk_set (blk_set hOb9 0 _) 1 _]; rfl
            have hB10 := (HB8.out.but hB9 (by omega)).but (But.of_only hO10) (by omega)
            have hN10 : NxO w ((w9.setCell ⟨w3.heap.size, 0, none⟩ (.int .u8 K9)).setCell ⟨w3.heap.size, 1, none⟩ (.slice ea en ec)) R ys.length rest K9 (.slice ea en ec) m9 := by
              rcases hN9 with h | ⟨h1, h2, h3, h4, h5, s9, h6, h7⟩
              · exact .inl h
              · exact .inr ⟨h1, h2, h3, h4, h5, s9, h6, ⟨(hO10.other R (by omega)).trans h7.blk, h7.up, h7.bel.trans (hO10.below (by omega))⟩⟩
            have HST9 : Hid (LoopR w R ys (.pointer (some ⟨w3.heap.size, 0, none⟩)) (.bool m9) ((w9.setCell ⟨w3.heap.size, 0, none⟩ (.int .u8 K9)).setCell ⟨w3.heap.size, 1, none⟩ (.slice ea en ec))) :=
              LoopR.of_next hB10 (by omega) (by rw [hO10.size]; omega) HNO.out HP.out hOb10 hN10
            have HME : Hid (measO R (.bool m9) ((w9.setCell ⟨w3.heap.size, 0, none⟩ (.int .u8 K9)).setCell ⟨w3.heap.size, 1, none⟩ (.slice ea en ec)) < measO R (.bool true) wr) := by
              show measO R (.bool m9) _ < leftLen wr R + 1
              rw [HLL.out]
              rcases hN10 with ⟨rfl, _⟩ | ⟨rfl, h2, h3, h4, h5, s9, h6, h7⟩
              · show 0 < _
                omega
              · show leftLen _ R + 1 < _
                rw [h7.leftLen h6]
                have := drop_less h3
                omega
            clear hN10 hB10 hOb10 hO10 hOb9 hN9 hB9 hb9 h9
            go_wp2
            exact ⟨HST9.out, HME.out⟩

end Go.Proofs.Ytmoogfdmlbalbaa
