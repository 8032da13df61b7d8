/-
  Size of package ipv6; the document's heads.
  The document's heads and right of IPv6.
  The document's right of IPv6.
-/
import Derived.Test.YtpgnnplpcalbbaaGreatFold07
set_option linter.unusedVariables false
set_option linter.unusedSimpArgs false
namespace Go.Proofs.YtpgnnplpcalbbaaGreat.V6
open Go Go.RowKit
theorem headsB_tot {hs : Opts} (hb : headsB hs) (k : Nat) (hk : k ≤ hs.length) : oTot hs k ≤ 100000 := by
  have := allH_tot (hs := hs) (k := k) (fun j hj => hb.2 j (by omega))
  have := hb.1
  omega
theorem ahead6_int (hs : Opts) (fr : Bool) : (40 + (oTot hs hs.length : Int) + (if fr = true then 8 else 0)) = (ahead6 hs fr : Int) := by
  unfold ahead6
  split <;> simp
theorem ahead6_le {hs : Opts} (fr : Bool) (hb : headsB hs) : 40 ≤ ahead6 hs fr ∧ ahead6 hs fr ≤ 100000 := by
  have := allH_tot (hs := hs) (k := hs.length) hb.2
  have := hb.1
  unfold ahead6
  split <;> omega
theorem Chk6.zero {lab : Int} {hs : Opts} {fr : Bool} {id off : Int} {more : Bool} {proto : Int} {nb : Nat} (h : Chk6 lab hs fr id off more proto nb 0) : ok6 lab hs fr id off more proto ∧ ahead6 hs fr + nb ≤ 65535 + 40 := by
  rcases h with ⟨a, h⟩ | ⟨a, b, h⟩ | ⟨a, b, h⟩
  · omega
  · omega
  · exact ⟨a, b⟩
section
variable {c : List Value} {cls lab hop : Int} {vh : Value} {fr : Bool} {id off : Int} {more : Bool} {proto : Int} {vb : Value}
set_option maxHeartbeats 1000000 in
set_option maxRecDepth 100000 in
theorem Size_calls (w : World) (h : L6 c cls lab hop vh fr id off more proto vb) (hs : Opts) (hh : OptsAt w.heap.size w vh hs) (body : List Int) (hbd : BytesAt w.heap.size w vb body) (hlab : 0 ≤ lab ∧ lab ≤ 4294967295) :
    Calls Tryz.prog 211 #[.agg c.toArray] w fun e w' => ∃ er, e = .returned (.tuple #[.int .i64 (if er = 0 then ahead6 hs fr + body.length else 0), .int .i64 (if er = 0 then ahead6 hs fr else 0), .int .i64 er]) ∧ Chk6 lab hs fr id off more proto body.length er ∧ Below w.heap.size w w' := by
  have hb0 := blk_new w (.cells c.toArray 36)
  have hB0 := (Below.refl w.heap.size w).alloc (Nat.le_refl _) (.cells c.toArray 36)
  generalize hW0 : w.alloc (.cells c.toArray 36) = W0 at *
  have hLA : ∀ x : Hi W0, (Instr.loadAt 36 (.pointer (some ⟨w.heap.size, 0, none⟩))).run Tryz.prog x.W = .ok (.agg c.toArray) x.W := fun x => agg_load Tryz.isAgg36 Tryz.sizeOf36 h.len (CellsAt.of_blk (Hi.blk hb0 x))
  have K41 : Hid (∀ x : Hi W0, x.W.cell? ⟨w.heap.size, 41, none⟩ = some vb) := fun x => blk_cell (Hi.blk hb0 x) h.c41
  have HLA : Hid _ := hLA
  have HL0 : Hid ((Instr.loadAt 36 (.pointer (some ⟨w.heap.size, 0, none⟩))).run Tryz.prog W0 = .ok (.agg c.toArray) W0) := hLA (Hi.refl _)
  have HCK : Hid (∀ x : Hi W0, _) := fun x => Check_calls x.W h hs (hh.later (hB0.trans (x.below.mono hB0.size))) body (hbd.later (hB0.trans (x.below.mono hB0.size))) hlab
  have HAH : Hid (headsB hs → ∀ x : Hi W0, _) := fun hb x => ahead_calls x.W h hs (hh.later (hB0.trans (x.below.mono hB0.size))) (headsB_tot hb)
  have HBW : Hid (∀ x : Hi W0, Below w.heap.size w x.W) := fun x => hB0.trans (x.below.mono hB0.size)
  obtain ⟨_, hbl, ba, bc, rfl, _⟩ := hbd
  clear hb0 hLA hh h
  go_enter Tryz.func211, Tryz.ntmps211
  go_wp2_with ((with_reducible show wpList _ _ _ _ _ _); refine arm_load rfl (.tmp 1) 36 rfl rfl HL0.out ?_)
  refine Calls.mono (HCK.out (Hi.refl _)) ?_
  rintro _ w1 ⟨er, rfl, hck, hb1⟩
  by_cases h0 : er = 0
  · subst h0
    obtain ⟨hok, hle⟩ := hck.zero
    have HCE : Hid (ok6 lab hs fr id off more proto ∧ ahead6 hs fr + body.length ≤ 65535 + 40) := ⟨hok, hle⟩
    obtain ⟨x1, rfl⟩ : ∃ x : Hi W0, w1 = x.W := ⟨(Hi.refl _).more hb1, rfl⟩
    have hA := ahead6_le fr hok.2.1
    have ha := HAH.out hok.2.1
    rw [ahead6_int] at ha
    have HA : Hid _ := ha
    have k41 := K41.out
    have v1 : IntKind.i64.wrap ((ahead6 hs fr : Int) + body.length) = ahead6 hs fr + body.length := wrapi64 _ (by omega)
    clear ha hck hok HAH HCK hb1 HL0 K41
    go_wp2_with ((with_reducible show wpList _ _ _ _ _ _); refine arm_load rfl (.tmp 1) 36 rfl rfl (HLA.out _) ?_)
    refine Calls.mono (Hi.calls (HA.out _)) ?_
    rintro _ _ ⟨rfl, x2, rfl⟩
    go_wp2
    go_ret3
    exact ⟨0, by simp, .inr (.inr ⟨HCE.out.1, HCE.out.2, rfl⟩), HBW.out _⟩
  · have q : (er != 0) = true := by simp [h0]
    have HCE : Hid _ := hck
    clear hck
    go_wp2_with fail
    go_ret3
    exact ⟨er, by simp [h0], HCE.out, HBW.out ((Hi.refl _).more hb1)⟩
end
end Go.Proofs.YtpgnnplpcalbbaaGreat.V6
namespace Go.Proofs.YtpgnnplpcalbbaaGreat.V6
open Go Go.RowKit
section
variable {c : List Value} {cls lab hop : Int} {vh : Value} {fr : Bool} {id off : Int} {more : Bool} {proto : Int} {vb : Value}
set_option maxHeartbeats 1000000 in
set_option maxRecDepth 100000 in
theorem Rheads_calls (w : World) (h : L6 c cls lab hop vh fr id off more proto vb) (hs : Opts) (hh : OptsAt w.heap.size w vh hs) (hb : ∀ k, k ≤ hs.length → oTot hs k ≤ 100000) :
    Calls Tryz.prog 89 #[.agg c.toArray] w fun e w' => e = .returned (.int .i64 (40 + (oTot hs hs.length : Int) + (if fr then 8 else 0))) ∧ Below w.heap.size w w' := by
  have hb0 := blk_new w (.cells c.toArray 36)
  have hB0 := (Below.refl w.heap.size w).alloc (Nat.le_refl _) (.cells c.toArray 36)
  have H35 : Hid _ := blk_cell hb0 h.c35
  have H36 : Hid _ := blk_cell hb0 h.c36
  have hlt0 : w.heap.size < (w.alloc (.cells c.toArray 36)).heap.size := by simp
  obtain ⟨hfit, hlen, a, cap, rfl, hz⟩ := hh
  clear hb0 h
  generalize hW : w.alloc (.cells c.toArray 36) = W0 at *
  go_enter Tryz.func89, Tryz.ntmps89
  go_wp2
  go_loopw [3, 4] (fun x i wr => ∃ k : Nat, k ≤ hs.length ∧ i = .int .i64 k ∧ x = .int .i64 (40 + (oTot hs k : Int)) ∧ Below W0.heap.size W0 wr) (fun _ i _ => hs.length - (intOf i).toNat)
  case atStart => exact ⟨0, Nat.zero_le _, rfl, by simp [oTot], Below.refl _ _⟩
  case round =>
    obtain ⟨k, hk, rfl, rfl, hB⟩ := hrel
    have k35 := (hB.cell (p := ⟨w.heap.size, 35, none⟩) hlt0).trans H35.out
    by_cases hlt : k < hs.length
    · have hz' := hz
      rcases hz' with hz' | ⟨b, off, rfl, hbn, hc⟩
      · omega
      obtain ⟨c0, s, c1, hs'⟩ := hc k hlt
      obtain ⟨_, hdl, sa, sc, rfl, _⟩ := hs'
      have hBw := hB0.trans (hB.mono hB0.size)
      have x1 := (hBw.cell (p := ⟨b, off + k * 2 + 1, none⟩) hbn).trans c1
      have hT1 : (((oTot hs (k + 1) : Nat) : Int)) = (oTot hs k : Int) + (2 + ((oD hs k).length : Int)) := by simp only [oTot]; omega
      have hbk := hb (k + 1) hlt
      have HT : Hid _ := hT1
      have HA : Hid _ := hB
      have v1 : IntKind.i64.wrap (40 + (oTot hs k : Int) + 2) = 40 + (oTot hs k : Int) + 2 := wrapi64 _ (by omega)
      have v2 : IntKind.i64.wrap (40 + (oTot hs k : Int) + 2 + ((oD hs k).length : Int)) = 40 + (oTot hs k : Int) + 2 + ((oD hs k).length : Int) := wrapi64 _ (by omega)
      generalize hT1e : oTot hs (k + 1) = T1 at *
      have HT1E : Hid _ := hT1e
      clear hT1e hc hz c0 c1 hB hBw hT1 hbk
      generalize oTot hs k = T at *
      generalize (oD hs k).length = D at *
      go_wp2
      exact ⟨⟨k + 1, by omega, by simp, by rw [HT1E.out, HT.out]; simp; omega, HA.out⟩, by simp [intOf]; omega⟩
    · obtain rfl : k = hs.length := by omega
      have k36 := (hB.cell (p := ⟨w.heap.size, 36, none⟩) hlt0).trans H36.out
      have hbk := hb hs.length (Nat.le_refl _)
      have HB : Hid (Below w.heap.size w wr) := hB0.trans (hB.mono hB0.size)
      clear hz hB
      generalize hTe : oTot hs hs.length = T at *
      have HTE : Hid _ := hTe
      clear hTe
      have v2 : IntKind.i64.wrap (40 + (T : Int) + 8) = 40 + (T : Int) + 8 := wrapi64 _ (by omega)
      cases fr
      all_goals
        go_wp2
        go_ret
        exact ⟨by rw [HTE.out]; simp, HB.out⟩
end
end Go.Proofs.YtpgnnplpcalbbaaGreat.V6
namespace Go.Proofs.YtpgnnplpcalbbaaGreat.V6
open Go Go.RowKit
def IsB (P : Prop) (e : Ending) : Prop := ∃ b, e = .returned (.bool b) ∧ (b = true ↔ P)
theorem IsB.no {P : Prop} (h : ¬ P) : IsB P (.returned (.bool false)) := ⟨_, rfl, by simpa using h⟩
section
variable {c : List Value} {cls lab hop : Int} {vh : Value} {fr : Bool} {id off : Int} {more : Bool} {proto : Int} {vb : Value}
set_option maxHeartbeats 1000000 in
set_option maxRecDepth 100000 in
theorem right_calls (w : World) (h : L6 c cls lab hop vh fr id off more proto vb) (hs : Opts) (hh : OptsAt w.heap.size w vh hs) :
    Calls Tryz.prog 141 #[.agg c.toArray] w fun e w' => IsB (ok6 lab hs fr id off more proto) e ∧ Below w.heap.size w w' := by
  have hb0 := blk_new w (.cells c.toArray 36)
  have hB0 := (Below.refl w.heap.size w).alloc (Nat.le_refl _) (.cells c.toArray 36)
  have k1 := blk_cell hb0 h.c1
  have k35 := blk_cell hb0 h.c35
  have H35 : Hid _ := k35
  have H36 : Hid _ := blk_cell hb0 h.c36
  have H37 : Hid _ := blk_cell hb0 h.c37
  have H38 : Hid _ := blk_cell hb0 h.c38
  have H39 : Hid _ := blk_cell hb0 h.c39
  have H40 : Hid _ := blk_cell hb0 h.c40
  have hlt0 : w.heap.size < (w.alloc (.cells c.toArray 36)).heap.size := by simp
  obtain ⟨hfit, hlen, a, cap, rfl, hz⟩ := hh
  have HEQ : Hid (1048575 < lab ∨ ¬ headsB hs → ¬ ok6 lab hs fr id off more proto) := fun h c => h.elim (fun h => by have := c.1; omega) (fun h => h c.2.1)
  have HYE : Hid (¬ 1048575 < lab → headsB hs → (endB fr id off more proto = true ↔ ok6 lab hs fr id off more proto)) := fun a b => ⟨fun h => ⟨by omega, b, h⟩, fun h => h.2.2⟩
  clear hb0 h
  generalize ok6 lab hs fr id off more proto = OK at *
  generalize hW : w.alloc (.cells c.toArray 36) = W0 at *
  go_enter Tryz.func141, Tryz.ntmps141
  by_cases hl : 1048575 < lab
  · have q : decide ((1048576 : Int) ≤ lab) = true := by simp; omega
    have HN := HEQ.out (.inl hl)
    have HH : Hid _ := HN
    clear HN hz
    go_wp2
    go_ret
    exact ⟨IsB.no HH.out, hB0⟩
  have q : decide ((1048576 : Int) ≤ lab) = false := by simp; omega
  by_cases h8 : 8 < hs.length
  · have q8 : decide ((8 : Int) < (hs.length : Int)) = true := by simp; omega
    have HN := HEQ.out (.inr (fun c => by have := c.1; omega))
    have HH : Hid _ := HN
    clear HN hz
    go_wp2
    go_ret
    exact ⟨IsB.no HH.out, hB0⟩
  have q8 : decide ((8 : Int) < (hs.length : Int)) = false := by simp; omega
  go_wp2
  clear k1 k35
  go_loopw [3] (fun i wr => ∃ k : Nat, k ≤ hs.length ∧ i = .int .i64 k ∧ allH hs k ∧ Below W0.heap.size W0 wr) (fun i _ => hs.length - (intOf i).toNat)
  case atStart => exact ⟨0, Nat.zero_le _, rfl, fun j hj => absurd hj (by omega), Below.refl _ _⟩
  case round =>
    obtain ⟨k, hk, rfl, hall, hB⟩ := hrel
    have k35 := (hB.cell (p := ⟨w.heap.size, 35, none⟩) hlt0).trans H35.out
    by_cases hlt : k < hs.length
    · have hz' := hz
      rcases hz' with hz' | ⟨b, o0, rfl, hbn, hc⟩
      · omega
      obtain ⟨c0, s, c1, hs'⟩ := hc k hlt
      obtain ⟨_, hdl, sa, sc, rfl, _⟩ := hs'
      have hBw := hB0.trans (hB.mono hB0.size)
      have x0 := (hBw.cell (p := ⟨b, o0 + k * 2, none⟩) hbn).trans c0
      have x1 := (hBw.cell (p := ⟨b, o0 + k * 2 + 1, none⟩) hbn).trans c1
      have hno : headOk hs k = false → ¬ OK := fun hf => HEQ.out (.inr fun c => by have := c.2 k hlt; rw [hf] at this; cases this)
      have hgo : headOk hs k = true → allH hs (k + 1) := fun hg => allH_succ hall hg
      have hok : headOk hs k = (kindB (oK hs k) k && decide ((2 + (oD hs k).length) % 8 = 0) && decide ((oD hs k).length ≤ 2046)) := rfl
      have HNO : Hid _ := hno
      have HGO : Hid _ := hgo
      have HOK : Hid _ := hok
      have HA : Hid _ := hB.alloc hB.size (.cells #[.int .u8 (oK hs k), .slice sa (oD hs k).length sc] 110)
      have HAw : Hid _ := hBw.alloc hBw.size (.cells #[.int .u8 (oK hs k), .slice sa (oD hs k).length sc] 110)
      have HKB : Hid (∀ W, Calls Tryz.prog 208 #[.int .u8 (oK hs k)] W fun e w' => e = .returned (.bool (isH (oK hs k))) ∧ w' = W) := fun W => extra_calls _ W
      have n0 : (wr.alloc (.cells #[.int .u8 (oK hs k), .slice sa (oD hs k).length sc] 110)).cell? ⟨wr.heap.size, 0, none⟩ = some (.int .u8 (oK hs k)) := by rw [World.cell?_alloc_new]; rfl
      have n1 : (wr.alloc (.cells #[.int .u8 (oK hs k), .slice sa (oD hs k).length sc] 110)).cell? ⟨wr.heap.size, 1, none⟩ = some (.slice sa (oD hs k).length sc) := by rw [World.cell?_alloc_new]; rfl
      clear hno hgo hok hc hz c0 c1 hB hall hBw
      generalize headOk hs k = ok at *
      unfold kindB at HOK
      generalize isH (oK hs k) = kb at *
      generalize oK hs k = K at *
      generalize (oD hs k).length = D at *
      go_wp2_with fail
      refine Calls.mono (HKB.out _) ?_
      rintro _ w2 ⟨rfl, hw2⟩
      obtain rfl := hw2.symm
      clear hw2
      cases kb
      · have HN : Hid _ := HNO.out (by rw [HOK.out]; rfl)
        go_wp2
        go_ret
        exact ⟨IsB.no HN.out, HAw.out⟩
      · have hkd : (K = 0 ∧ 0 < k) ∨ ¬ (K = 0 ∧ 0 < k) := Classical.em _
        rcases hkd with ⟨rfl, hk0⟩ | hkd
        · have q1 : decide ((0 : Int) < (k : Int)) = true := by simp; omega
          have HN : Hid _ := HNO.out (by rw [HOK.out]; have : decide (k = 0) = false := (by simp; omega); rw [this]; rfl)
          go_wp2
          go_ret
          exact ⟨IsB.no HN.out, HAw.out⟩
        · by_cases hK : K = 0
          · subst hK
            have hk0 : ¬ 0 < k := fun h => hkd ⟨rfl, h⟩
            have qk : (((0 : Int) != 0) || decide (k = 0)) = true := by
              have : k = 0 := by omega
              simp [this]
            have q0 : decide (0 < k) = false := by simp; omega
            clear hkd hk0
            have HOK2 : Hid (ok = (decide ((2 + D) % 8 = 0) && decide (D ≤ 2046))) := by rw [HOK.out, qk]; rfl
            clear HOK qk
            by_cases h1 : (2 + D) % 8 = 0
            · have q1 : ((D : Int) % 8 != 6) = false := by simp; omega
              by_cases h2 : D ≤ 2046
              · have q2 : decide ((2046 : Int) < (D : Int)) = false := by simp; omega
                have HG : Hid (allH hs (k + 1)) := HGO.out (by rw [HOK2.out]; simp [h1, h2])
                clear h1 h2
                go_wp2
                exact ⟨⟨k + 1, by omega, by simp, HG.out, HA.out⟩, by simp [intOf]; omega⟩
              · have q2 : decide ((2046 : Int) < (D : Int)) = true := by simp; omega
                have HN : Hid _ := HNO.out (by rw [HOK2.out]; simp [h2])
                clear h1 h2
                go_wp2
                go_ret
                exact ⟨IsB.no HN.out, HAw.out⟩
            · have q1 : ((D : Int) % 8 != 6) = true := by simp; omega
              have HN : Hid _ := HNO.out (by rw [HOK2.out]; simp [h1])
              clear h1
              go_wp2
              go_ret
              exact ⟨IsB.no HN.out, HAw.out⟩
          · have qk : ((K != 0) || decide (k = 0)) = true := by simp [hK]
            have q0 : (K == 0) = false := by simp [hK]
            clear hkd
            have HOK2 : Hid (ok = (decide ((2 + D) % 8 = 0) && decide (D ≤ 2046))) := by rw [HOK.out, qk]; rfl
            clear HOK qk
            by_cases h1 : (2 + D) % 8 = 0
            · have q1 : ((D : Int) % 8 != 6) = false := by simp; omega
              by_cases h2 : D ≤ 2046
              · have q2 : decide ((2046 : Int) < (D : Int)) = false := by simp; omega
                have HG : Hid (allH hs (k + 1)) := HGO.out (by rw [HOK2.out]; simp [h1, h2])
                clear h1 h2
                go_wp2
                exact ⟨⟨k + 1, by omega, by simp, HG.out, HA.out⟩, by simp [intOf]; omega⟩
              · have q2 : decide ((2046 : Int) < (D : Int)) = true := by simp; omega
                have HN : Hid _ := HNO.out (by rw [HOK2.out]; simp [h2])
                clear h1 h2
                go_wp2
                go_ret
                exact ⟨IsB.no HN.out, HAw.out⟩
            · have q1 : ((D : Int) % 8 != 6) = true := by simp; omega
              have HN : Hid _ := HNO.out (by rw [HOK2.out]; simp [h1])
              clear h1
              go_wp2
              go_ret
              exact ⟨IsB.no HN.out, HAw.out⟩
    · obtain rfl : k = hs.length := by omega
      have k36 := (hB.cell (p := ⟨w.heap.size, 36, none⟩) hlt0).trans H36.out
      have k37 := (hB.cell (p := ⟨w.heap.size, 37, none⟩) hlt0).trans H37.out
      have k38 := (hB.cell (p := ⟨w.heap.size, 38, none⟩) hlt0).trans H38.out
      have k39 := (hB.cell (p := ⟨w.heap.size, 39, none⟩) hlt0).trans H39.out
      have k40 := (hB.cell (p := ⟨w.heap.size, 40, none⟩) hlt0).trans H40.out
      have HYS : Hid _ := HYE.out hl ⟨by omega, hall⟩
      have HB : Hid (Below w.heap.size w wr) := hB0.trans (hB.mono hB0.size)
      have HE : Hid _ := extra_calls proto wr
      clear hz hB hall
      cases fr
      all_goals
        go_wp2
        all_goals
          go_ret
          refine ⟨⟨_, rfl, ?_⟩, HB.out⟩
          rw [← HYS.out]
          simp_all [endB, isH]
          all_goals (intros; omega)
end
end Go.Proofs.YtpgnnplpcalbbaaGreat.V6
