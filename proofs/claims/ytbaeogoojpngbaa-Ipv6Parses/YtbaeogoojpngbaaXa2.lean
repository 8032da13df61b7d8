/-
  Check and Size of package ipv6.
-/
import Derived.Test.YtbaeogoojpngbaaXa1
namespace Go.Proofs.Ytbaeogoojpngbaa
open Go Go.RowKit
set_option linter.unusedVariables false
set_option linter.unusedSimpArgs false

def endB (fr : Bool) (id off : Int) (more : Bool) (proto : Int) : Bool :=
  if fr then decide (0 ≤ off) && decide (off ≤ 8191) else (id == 0) && (off == 0) && !more && !isH proto && (proto != 44)

section
variable {c : List Value} {cls lab hop : Int} {vh : Value} {fr : Bool} {id off : Int} {more : Bool} {proto : Int} {vb : Value}
set_option maxHeartbeats 1000000 in
set_option maxRecDepth 100000 in
theorem endMayBe_calls (w : World) (h : L6 c cls lab hop vh fr id off more proto vb) :
    Calls Try.prog 28 #[.agg c.toArray] w fun e w' => e = .returned (.bool (endB fr id off more proto)) ∧ Below w.heap.size w w' := by
  have hb0 := blk_new w (.cells c.toArray 28)
  have HB : Hid _ := (Below.refl w.heap.size w).alloc (Nat.le_refl _) (.cells c.toArray 28)
  have k36 := blk_cell hb0 h.c36
  have k37 := blk_cell hb0 h.c37
  have k38 := blk_cell hb0 h.c38
  have k39 := blk_cell hb0 h.c39
  have k40 := blk_cell hb0 h.c40
  have HH : Hid (∀ W, Calls Try.prog 42 #[.int .u8 proto] W fun e w' => e = .returned (.bool (isH proto)) ∧ w' = W) := fun W => isHead_calls proto W
  clear hb0 h
  unfold endB
  generalize isH proto = ih at *
  generalize hW : w.alloc (.cells c.toArray 28) = W0 at *
  go_enter Try.func28, Try.ntmps28
  cases fr
  · go_wp2_with fail
    all_goals first
      | (refine Calls.mono (HH.out _) ?_
         rintro _ w2 ⟨rfl, hw2⟩
         obtain rfl := hw2.symm
         clear hw2
         cases ih
         all_goals
           go_wp2
           all_goals
             go_ret
             exact ⟨by simp_all, HB.out⟩)
      | (go_ret
         exact ⟨by simp_all, HB.out⟩)
  · go_wp2
    all_goals
      go_ret
      exact ⟨by simp_all <;> (intros; omega), HB.out⟩

set_option maxHeartbeats 1000000 in
set_option maxRecDepth 100000 in
theorem ahead_calls (w : World) (h : L6 c cls lab hop vh fr id off more proto vb) (hs : Opts) (hh : OptsAt w.heap.size w vh hs) (hb : ∀ k, k ≤ hs.length → oTot hs k ≤ 100000) :
    Calls Try.prog 26 #[.agg c.toArray] w fun e w' => e = .returned (.int .i64 (40 + (oTot hs hs.length : Int) + (if fr then 8 else 0))) ∧ Below w.heap.size w w' := by
  have hb0 := blk_new w (.cells c.toArray 28)
  have hB0 := (Below.refl w.heap.size w).alloc (Nat.le_refl _) (.cells c.toArray 28)
  have k35 := blk_cell hb0 h.c35
  have H36 : Hid _ := blk_cell hb0 h.c36
  have hlt0 : w.heap.size < (w.alloc (.cells c.toArray 28)).heap.size := by simp
  obtain ⟨hfit, hlen, a, cap, rfl, hz⟩ := hh
  clear hb0 h
  generalize hW : w.alloc (.cells c.toArray 28) = W0 at *
  go_enter Try.func26, Try.ntmps26
  go_wp2
  go_loopw [3, 9] (fun x i wr => ∃ k : Nat, k ≤ hs.length ∧ i = .int .i64 k ∧ x = .int .i64 (40 + (oTot hs k : Int)) ∧ Below W0.heap.size W0 wr) (fun _ i _ => hs.length - (intOf i).toNat)
  case atStart => exact ⟨0, Nat.zero_le _, rfl, by simp [oTot], Below.refl _ _⟩
  case round =>
    obtain ⟨k, hk, rfl, rfl, hB⟩ := hrel
    by_cases hlt : k < hs.length
    · have hz' := hz
      rcases hz' with hz' | ⟨b, off, rfl, hbn, hc⟩
      · omega
      obtain ⟨c0, s, c1, hs'⟩ := hc k hlt
      obtain ⟨_, hdl, sa, sc, rfl, _⟩ := hs'
      have hBw := hB0.trans (hB.mono hB0.size)
      have x0 := (hBw.cell (p := ⟨b, off + k * 2, none⟩) hbn).trans c0
      have x1 := (hBw.cell (p := ⟨b, off + k * 2 + 1, none⟩) hbn).trans c1
      have hT1 : (((oTot hs (k + 1) : Nat) : Int)) = (oTot hs k : Int) + (2 + ((oD hs k).length : Int)) := by simp only [oTot]; omega
      have hbk := hb (k + 1) hlt
      have HT : Hid _ := hT1
      have HA : Hid _ := hB.alloc hB.size (.cells #[.int .u8 (oK hs k), .slice sa (oD hs k).length sc] 52)
      have n1 : (wr.alloc (.cells #[.int .u8 (oK hs k), .slice sa (oD hs k).length sc] 52)).cell? ⟨wr.heap.size, 1, none⟩ = some (.slice sa (oD hs k).length sc) := by rw [World.cell?_alloc_new]; rfl
      have v1 : IntKind.i64.wrap (2 + ((oD hs k).length : Int)) = 2 + ((oD hs k).length : Int) := wrapi64 _ (by omega)
      have v2 : IntKind.i64.wrap (40 + (oTot hs k : Int) + (2 + ((oD hs k).length : Int))) = 40 + (oTot hs k : Int) + (2 + ((oD hs k).length : Int)) := wrapi64 _ (by omega)
      generalize hT1e : oTot hs (k + 1) = T1 at *
      have HT1E : Hid _ := hT1e
      clear hT1e hc hz c0 c1 hB hBw hT1 hbk
      generalize oTot hs k = T at *
      generalize oK hs k = K at *
      generalize (oD hs k).length = D at *
      go_wp2
      exact ⟨⟨k + 1, by omega, by simp, by rw [HT1E.out, HT.out]; simp; omega, HA.out⟩, by simp [intOf]; omega⟩
    · obtain rfl : k = hs.length := by omega
      have k36 := (hB.cell (p := ⟨w.heap.size, 36, none⟩) hlt0).trans H36.out
      have hbk := hb hs.length (Nat.le_refl _)
      have HB : Hid (Below w.heap.size w wr) := hB0.trans (hB.mono hB0.size)
      clear hz hB
      generalize hTe : oTot hs hs.length = T at *
      have HTE : Hid _ := hTe
      clear hTe
      have v2 : IntKind.i64.wrap (40 + (T : Int) + 8) = 40 + (T : Int) + 8 := wrapi64 _ (by omega)
      cases fr
      all_goals
        go_wp2
        go_ret
        exact ⟨by rw [HTE.out]; simp, HB.out⟩
end

theorem allH_tot {hs : Opts} : ∀ {k : Nat}, allH hs k → oTot hs k ≤ 2048 * k
  | 0, _ => by simp [oTot]
  | k + 1, h => by
    have := allH_tot (hs := hs) (k := k) (fun j hj => h j (by omega))
    have h2 := h k (by omega)
    simp [headOk] at h2
    simp only [oTot]
    omega
def ok6 (lab : Int) (hs : Opts) (fr : Bool) (id off : Int) (more : Bool) (proto : Int) : Prop := lab ≤ 1048575 ∧ headsB hs ∧ endB fr id off more proto = true
def ahead6 (hs : Opts) (fr : Bool) : Nat := 40 + oTot hs hs.length + (if fr then 8 else 0)
/-- What Check answers. -/
def Chk6 (lab : Int) (hs : Opts) (fr : Bool) (id off : Int) (more : Bool) (proto : Int) (nb : Nat) (er : Int) : Prop :=
  (¬ ok6 lab hs fr id off more proto ∧ er = 54) ∨ (ok6 lab hs fr id off more proto ∧ 65535 + 40 < ahead6 hs fr + nb ∧ er = 2) ∨ (ok6 lab hs fr id off more proto ∧ ahead6 hs fr + nb ≤ 65535 + 40 ∧ er = 0)
theorem Chk6.unique {lab : Int} {hs : Opts} {fr : Bool} {id off : Int} {more : Bool} {proto : Int} {nb : Nat} {er er' : Int} (h : Chk6 lab hs fr id off more proto nb er) (h' : Chk6 lab hs fr id off more proto nb er') : er = er' := by
  rcases h with ⟨a, rfl⟩ | ⟨a, b, rfl⟩ | ⟨a, b, rfl⟩ <;> rcases h' with ⟨a', rfl⟩ | ⟨a', b', rfl⟩ | ⟨a', b', rfl⟩
  · rfl
  · exact absurd a' a
  · exact absurd a' a
  · exact absurd a a'
  · rfl
  · omega
  · exact absurd a a'
  · omega
  · rfl

section
variable {c : List Value} {cls lab hop : Int} {vh : Value} {fr : Bool} {id off : Int} {more : Bool} {proto : Int} {vb : Value}
set_option maxHeartbeats 1000000 in
set_option maxRecDepth 100000 in
theorem Check_calls (w : World) (h : L6 c cls lab hop vh fr id off more proto vb) (hs : Opts) (hh : OptsAt w.heap.size w vh hs) (body : List Int) (hbd : BytesAt w.heap.size w vb body) (hlab : 0 ≤ lab ∧ lab ≤ 4294967295) :
    Calls Try.prog 12 #[.agg c.toArray] w fun e w' => ∃ er, e = .returned (.int .i64 er) ∧ Chk6 lab hs fr id off more proto body.length er ∧ Below w.heap.size w w' := by
  have hb0 := blk_new w (.cells c.toArray 28)
  have hB0 := (Below.refl w.heap.size w).alloc (Nat.le_refl _) (.cells c.toArray 28)
  generalize hW0 : w.alloc (.cells c.toArray 28) = W0 at *
  have hLA : ∀ x : Hi W0, (Instr.loadAt 28 (.pointer (some ⟨w.heap.size, 0, none⟩))).run Try.prog x.W = .ok (.agg c.toArray) x.W := fun x => agg_load Try.isAgg28 Try.sizeOf28 h.len (CellsAt.of_blk (Hi.blk hb0 x))
  have K1 : Hid (∀ x : Hi W0, x.W.cell? ⟨w.heap.size, 1, none⟩ = some (.int .u32 lab)) := fun x => blk_cell (Hi.blk hb0 x) h.c1
  have K35 : Hid (∀ x : Hi W0, x.W.cell? ⟨w.heap.size, 35, none⟩ = some vh) := fun x => blk_cell (Hi.blk hb0 x) h.c35
  have K41 : Hid (∀ x : Hi W0, x.W.cell? ⟨w.heap.size, 41, none⟩ = some vb) := fun x => blk_cell (Hi.blk hb0 x) h.c41
  have HLA : Hid _ := hLA
  have HHM : Hid (∀ x : Hi W0, _) := fun x => headsMayBe_calls vh hs x.W (hh.later (hB0.trans (x.below.mono hB0.size)))
  have HEM : Hid (∀ x : Hi W0, _) := fun x => endMayBe_calls x.W h
  have HAH : Hid (headsB hs → ∀ x : Hi W0, _) := fun hb x => ahead_calls x.W h hs (hh.later (hB0.trans (x.below.mono hB0.size))) (fun k hk => by
    have := allH_tot (hs := hs) (k := k) (fun j hj => hb.2 j (by omega))
    have := hb.1
    omega)
  have HBW : Hid (∀ x : Hi W0, Below w.heap.size w x.W) := fun x => hB0.trans (x.below.mono hB0.size)
  obtain ⟨_, hbl, ba, bc, rfl, _⟩ := hbd
  obtain ⟨_, _, hva, hvc, hvh, _⟩ := hh
  subst hvh
  have k1 : W0.cell? ⟨w.heap.size, 1, none⟩ = some (.int .u32 lab) := K1.out (Hi.refl _)
  clear hb0 hLA
  have HN : Hid (1048575 < lab → ¬ ok6 lab hs fr id off more proto) := fun a b => by have := b.1; omega
  have HN2 : Hid (¬ headsB hs → ¬ ok6 lab hs fr id off more proto) := fun a b => a b.2.1
  go_enter Try.func12, Try.ntmps12
  by_cases hl : 1048575 < lab
  · have q : decide ((1048575 : Int) < lab) = true := by simp [hl]
    go_wp2_with fail
    go_ret
    exact ⟨_, rfl, .inl ⟨HN.out hl, rfl⟩, HBW.out (Hi.refl _)⟩
  · have q : decide ((1048575 : Int) < lab) = false := by simpa using hl
    have k35 : W0.cell? ⟨w.heap.size, 35, none⟩ = some (.slice hva hs.length hvc) := K35.out (Hi.refl _)
    go_wp2_with fail
    refine Calls.mono (HHM.out (Hi.refl _)) ?_
    rintro _ w1 ⟨hm, rfl, hiff, hb1⟩
    cases hm
    · go_wp2_with fail
      go_ret
      exact ⟨_, rfl, .inl ⟨HN2.out (fun c => by have := hiff.2 c; cases this), rfl⟩, HBW.out ((Hi.refl _).more hb1)⟩
    · have hhb := hiff.1 rfl
      have HL1 : Hid ((Instr.loadAt 28 (.pointer (some ⟨w.heap.size, 0, none⟩))).run Try.prog w1 = .ok (.agg c.toArray) w1) := HLA.out ((Hi.refl _).more hb1)
      go_wp2_with ((with_reducible show wpList _ _ _ _ _ _); refine arm_load rfl (.tmp 1) 28 rfl rfl HL1.out ?_)
      refine Calls.mono (HEM.out ((Hi.refl _).more hb1)) ?_
      rintro _ w2 ⟨rfl, hb2⟩
      have x2E : Hid (∃ x : Hi W0, x.W = w2) := ⟨((Hi.refl _).more hb1).more hb2, rfl⟩
      cases hE : endB fr id off more proto
      · go_wp2_with fail
        go_ret
        exact ⟨_, rfl, .inl ⟨(fun c => by have := c.2.2; rw [hE] at this; cases this), rfl⟩, HBW.out (((Hi.refl _).more hb1).more hb2)⟩
      · have hok : ok6 lab hs fr id off more proto := ⟨by omega, hhb, hE⟩
        obtain ⟨x2, rfl⟩ : ∃ x : Hi W0, w2 = x.W := ⟨((Hi.refl _).more hb1).more hb2, rfl⟩
        have ha := HAH.out hhb
        have hA : 40 ≤ ahead6 hs fr ∧ ahead6 hs fr ≤ 100000 := by
          have := allH_tot (hs := hs) (k := hs.length) hhb.2
          have := hhb.1
          unfold ahead6
          split <;> omega
        have hAe : (40 + (oTot hs hs.length : Int) + (if fr = true then 8 else 0)) = (ahead6 hs fr : Int) := by
          unfold ahead6
          split <;> simp
        rw [hAe] at ha
        have HA : Hid _ := ha
        have HC : Hid (∀ er, _ → Chk6 lab hs fr id off more proto body.length er) := fun er (he : (65535 + 40 < ahead6 hs fr + body.length ∧ er = 2) ∨ (ahead6 hs fr + body.length ≤ 65535 + 40 ∧ er = 0)) => he.elim (fun h => .inr (.inl ⟨hok, h.1, h.2⟩)) (fun h => .inr (.inr ⟨hok, h.1, h.2⟩))
        have k41 := K41.out
        clear ha hAe HAH HHM HEM K1 K35 K41 hb1 hb2 hiff hhb HL1 HN HN2 hok hE k1 k35 q x2E
        have HC2 : Hid (65535 + 40 < ahead6 hs fr + body.length → Chk6 lab hs fr id off more proto body.length 2) := fun h => HC.out 2 (.inl ⟨h, rfl⟩)
        have HC0 : Hid (¬ (65535 + 40 < ahead6 hs fr + body.length) → Chk6 lab hs fr id off more proto body.length 0) := fun h => HC.out 0 (.inr ⟨by omega, rfl⟩)
        clear HC
        generalize hCC : Chk6 lab hs fr id off more proto body.length = CC at *
        have HCE : Hid (∀ e, CC e → Chk6 lab hs fr id off more proto body.length e) := fun e h => by rw [hCC]; exact h
        clear hCC
        generalize ahead6 hs fr = A at HA hA HC2 HC0
        generalize body.length = nb at hbl k41 HC2 HC0
        have v1 : IntKind.i64.wrap ((A : Int) + nb) = A + nb := wrapi64 _ (by omega)
        have v2 : IntKind.i64.wrap ((A : Int) + nb - 40) = A + nb - 40 := wrapi64 _ (by omega)
        by_cases hlong : 65535 + 40 < A + nb
        · have q : decide ((65535 : Int) < (A : Int) + nb - 40) = true := by simp; omega
          have HCC : Hid (CC 2) := HC2.out hlong
          go_wp2_with fail
          refine wp_region_up (by kernel_rfl) (by kernel_rfl) ?_
          repeat (first
            | go_big_quiet_skip
            | (go_big_quiet_want; refine hi_load (.tmp 1) 28 rfl rfl HLA.out ?_; simp only [Act.put, List.setIfInBounds_toArray, List.set_cons_zero, List.set_cons_succ]; go_big_quiet_on)
            | (go_big_quiet_want; go_big_quiet_op; first | go_big_quiet_on | go_big_quiet_call (first | (go_at_call 26; exact Hi.calls (HA.out _)))))
          refine wpQuiet_nil ?_
          intro _ hw
          obtain ⟨y, rfl⟩ := hw
          go_wp2
          go_ret
          exact ⟨_, rfl, HCE.out _ HCC.out, HBW.out y⟩
        · have q : decide ((65535 : Int) < (A : Int) + nb - 40) = false := by simp; omega
          have HCC : Hid (CC 0) := HC0.out hlong
          go_wp2_with fail
          refine wp_region_up (by kernel_rfl) (by kernel_rfl) ?_
          repeat (first
            | go_big_quiet_skip
            | (go_big_quiet_want; refine hi_load (.tmp 1) 28 rfl rfl HLA.out ?_; simp only [Act.put, List.setIfInBounds_toArray, List.set_cons_zero, List.set_cons_succ]; go_big_quiet_on)
            | (go_big_quiet_want; go_big_quiet_op; first | go_big_quiet_on | go_big_quiet_call (first | (go_at_call 26; exact Hi.calls (HA.out _)))))
          refine wpQuiet_nil ?_
          intro _ hw
          obtain ⟨y, rfl⟩ := hw
          go_wp2
          go_ret
          exact ⟨_, rfl, HCE.out _ HCC.out, HBW.out y⟩
end

end Go.Proofs.Ytbaeogoojpngbaa
