/-
  The document's Check and Size of IPv6.
-/
import Derived.Test.YtbaeogoojpngbaaXa5
namespace Go.Proofs.Ytbaeogoojpngbaa
open Go Go.RowKit
set_option linter.unusedVariables false
set_option linter.unusedSimpArgs false

section
variable {c : List Value} {cls lab hop : Int} {vh : Value} {fr : Bool} {id off : Int} {more : Bool} {proto : Int} {vb : Value}
set_option maxHeartbeats 1000000 in
set_option maxRecDepth 100000 in
theorem RCheck_calls (w : World) (h : L6 c cls lab hop vh fr id off more proto vb) (hs : Opts) (hh : OptsAt w.heap.size w vh hs) (body : List Int) (hbd : BytesAt w.heap.size w vb body) :
    Calls Try.prog 13 #[.agg c.toArray] w fun e w' => ∃ er, e = .returned (.int .i64 er) ∧ Chk6 lab hs fr id off more proto body.length er ∧ Below w.heap.size w w' := by
  have hb0 := blk_new w (.cells c.toArray 28)
  have hB0 := (Below.refl w.heap.size w).alloc (Nat.le_refl _) (.cells c.toArray 28)
  generalize hW0 : w.alloc (.cells c.toArray 28) = W0 at *
  have hLA : ∀ x : Hi W0, (Instr.loadAt 28 (.pointer (some ⟨w.heap.size, 0, none⟩))).run Try.prog x.W = .ok (.agg c.toArray) x.W := fun x => agg_load Try.isAgg28 Try.sizeOf28 h.len (CellsAt.of_blk (Hi.blk hb0 x))
  have K41 : Hid (∀ x : Hi W0, x.W.cell? ⟨w.heap.size, 41, none⟩ = some vb) := fun x => blk_cell (Hi.blk hb0 x) h.c41
  have HLA : Hid _ := hLA
  have HL0 : Hid ((Instr.loadAt 28 (.pointer (some ⟨w.heap.size, 0, none⟩))).run Try.prog W0 = .ok (.agg c.toArray) W0) := hLA (Hi.refl _)
  have HRT : Hid (∀ x : Hi W0, _) := fun x => right_calls x.W h hs (hh.later (hB0.trans (x.below.mono hB0.size)))
  have HAH : Hid (headsB hs → ∀ x : Hi W0, _) := fun hb x => Rheads_calls x.W h hs (hh.later (hB0.trans (x.below.mono hB0.size))) (headsB_tot hb)
  have HBW : Hid (∀ x : Hi W0, Below w.heap.size w x.W) := fun x => hB0.trans (x.below.mono hB0.size)
  obtain ⟨_, hbl, ba, bc, rfl, _⟩ := hbd
  clear hb0 hLA hh h
  have HC54 : Hid (¬ ok6 lab hs fr id off more proto → Chk6 lab hs fr id off more proto body.length 54) := fun h => .inl ⟨h, rfl⟩
  have HC2 : Hid (ok6 lab hs fr id off more proto → 65535 + 40 < ahead6 hs fr + body.length → Chk6 lab hs fr id off more proto body.length 2) := fun h h2 => .inr (.inl ⟨h, h2, rfl⟩)
  have HC0 : Hid (ok6 lab hs fr id off more proto → ¬ 65535 + 40 < ahead6 hs fr + body.length → Chk6 lab hs fr id off more proto body.length 0) := fun h h2 => .inr (.inr ⟨h, by omega, rfl⟩)
  have HOKH : Hid (ok6 lab hs fr id off more proto → headsB hs) := fun h => h.2.1
  generalize Chk6 lab hs fr id off more proto body.length = CC at *
  generalize ok6 lab hs fr id off more proto = OK at *
  go_enter Try.func13, Try.ntmps13
  go_wp2_with ((with_reducible show wpList _ _ _ _ _ _); refine arm_load rfl (.tmp 1) 28 rfl rfl HL0.out ?_)
  refine Calls.mono (HRT.out (Hi.refl _)) ?_
  rintro _ w1 ⟨⟨bb, rfl, hiff⟩, hb1⟩
  cases bb
  · go_wp2_with fail
    go_ret
    exact ⟨_, rfl, HC54.out (fun c => by have := hiff.2 c; cases this), HBW.out ((Hi.refl _).more hb1)⟩
  · have hok := hiff.1 rfl
    have hA := ahead6_le fr (HOKH.out hok)
    have ha := HAH.out (HOKH.out hok)
    rw [ahead6_int] at ha
    have HA : Hid _ := ha
    obtain ⟨x1, rfl⟩ : ∃ x : Hi W0, w1 = x.W := ⟨(Hi.refl _).more hb1, rfl⟩
    have k41 := K41.out
    have hc2 := HC2.out hok
    have hc0 := HC0.out hok
    have HC2' : Hid _ := hc2
    have HC0' : Hid _ := hc0
    clear ha hiff HAH HRT hb1 HL0 K41 HC54 HC2 HC0 HOKH hc2 hc0
    generalize ahead6 hs fr = A at *
    generalize body.length = nb at *
    have v1 : IntKind.i64.wrap ((A : Int) - 40) = A - 40 := wrapi64 _ (by omega)
    have v2 : IntKind.i64.wrap ((A : Int) - 40 + nb) = A - 40 + nb := wrapi64 _ (by omega)
    by_cases hnb : 65535 < nb
    · have q0 : decide ((65535 : Int) < (nb : Int)) = true := by simp; omega
      have HCC : Hid (CC 2) := HC2'.out (by omega)
      go_wp2_with fail
      refine wp_region_up (by kernel_rfl) (by kernel_rfl) ?_
      repeat (first
        | go_big_quiet_skip
        | (go_big_quiet_want; refine hi_load (.tmp 1) 28 rfl rfl HLA.out ?_; simp only [Act.put, List.setIfInBounds_toArray, List.set_cons_zero, List.set_cons_succ]; go_big_quiet_on)
        | (go_big_quiet_want; go_big_quiet_op; first | go_big_quiet_on | go_big_quiet_call (first | (go_at_call 24; exact Hi.calls (HA.out _)))))
      refine wpQuiet_nil ?_
      intro _ hw
      obtain ⟨y, rfl⟩ := hw
      go_wp2
      go_ret
      exact ⟨_, rfl, HCC.out, HBW.out y⟩
    · have q0 : decide ((65535 : Int) < (nb : Int)) = false := by simp; omega
      by_cases hlong : 65535 + 40 < A + nb
      · have q1 : decide ((65535 : Int) < (A : Int) - 40 + nb) = true := by simp; omega
        have HCC : Hid (CC 2) := HC2'.out hlong
        go_wp2_with fail
        refine wp_region_up (by kernel_rfl) (by kernel_rfl) ?_
        repeat (first
          | go_big_quiet_skip
          | (go_big_quiet_want; refine hi_load (.tmp 1) 28 rfl rfl HLA.out ?_; simp only [Act.put, List.setIfInBounds_toArray, List.set_cons_zero, List.set_cons_succ]; go_big_quiet_on)
          | (go_big_quiet_want; go_big_quiet_op; first | go_big_quiet_on | go_big_quiet_call (first | (go_at_call 24; exact Hi.calls (HA.out _)))))
        refine wpQuiet_nil ?_
        intro _ hw
        obtain ⟨y, rfl⟩ := hw
        go_wp2
        go_ret
        exact ⟨_, rfl, HCC.out, HBW.out y⟩
      · have q1 : decide ((65535 : Int) < (A : Int) - 40 + nb) = false := by simp; omega
        have HCC : Hid (CC 0) := HC0'.out hlong
        go_wp2_with fail
        refine wp_region_up (by kernel_rfl) (by kernel_rfl) ?_
        repeat (first
          | go_big_quiet_skip
          | (go_big_quiet_want; refine hi_load (.tmp 1) 28 rfl rfl HLA.out ?_; simp only [Act.put, List.setIfInBounds_toArray, List.set_cons_zero, List.set_cons_succ]; go_big_quiet_on)
          | (go_big_quiet_want; go_big_quiet_op; first | go_big_quiet_on | go_big_quiet_call (first | (go_at_call 24; exact Hi.calls (HA.out _)))))
        refine wpQuiet_nil ?_
        intro _ hw
        obtain ⟨y, rfl⟩ := hw
        go_wp2
        go_ret
        exact ⟨_, rfl, HCC.out, HBW.out y⟩

set_option maxHeartbeats 1000000 in
set_option maxRecDepth 100000 in
theorem RSize_calls (w : World) (h : L6 c cls lab hop vh fr id off more proto vb) (hs : Opts) (hh : OptsAt w.heap.size w vh hs) (body : List Int) (hbd : BytesAt w.heap.size w vb body) :
    Calls Try.prog 11 #[.agg c.toArray] w fun e w' => ∃ er, e = .returned (.tuple #[.int .i64 (if er = 0 then ahead6 hs fr + body.length else 0), .int .i64 (if er = 0 then ahead6 hs fr else 0), .int .i64 er]) ∧ Chk6 lab hs fr id off more proto body.length er ∧ Below w.heap.size w w' := by
  have hb0 := blk_new w (.cells c.toArray 28)
  have hB0 := (Below.refl w.heap.size w).alloc (Nat.le_refl _) (.cells c.toArray 28)
  generalize hW0 : w.alloc (.cells c.toArray 28) = W0 at *
  have hLA : ∀ x : Hi W0, (Instr.loadAt 28 (.pointer (some ⟨w.heap.size, 0, none⟩))).run Try.prog x.W = .ok (.agg c.toArray) x.W := fun x => agg_load Try.isAgg28 Try.sizeOf28 h.len (CellsAt.of_blk (Hi.blk hb0 x))
  have K41 : Hid (∀ x : Hi W0, x.W.cell? ⟨w.heap.size, 41, none⟩ = some vb) := fun x => blk_cell (Hi.blk hb0 x) h.c41
  have HLA : Hid _ := hLA
  have HL0 : Hid ((Instr.loadAt 28 (.pointer (some ⟨w.heap.size, 0, none⟩))).run Try.prog W0 = .ok (.agg c.toArray) W0) := hLA (Hi.refl _)
  have HCK : Hid (∀ x : Hi W0, _) := fun x => RCheck_calls x.W h hs (hh.later (hB0.trans (x.below.mono hB0.size))) body (hbd.later (hB0.trans (x.below.mono hB0.size)))
  have HAH : Hid (headsB hs → ∀ x : Hi W0, _) := fun hb x => Rheads_calls x.W h hs (hh.later (hB0.trans (x.below.mono hB0.size))) (headsB_tot hb)
  have HBW : Hid (∀ x : Hi W0, Below w.heap.size w x.W) := fun x => hB0.trans (x.below.mono hB0.size)
  obtain ⟨_, hbl, ba, bc, rfl, _⟩ := hbd
  clear hb0 hLA hh h
  go_enter Try.func11, Try.ntmps11
  go_wp2_with ((with_reducible show wpList _ _ _ _ _ _); refine arm_load rfl (.tmp 1) 28 rfl rfl HL0.out ?_)
  refine Calls.mono (HCK.out (Hi.refl _)) ?_
  rintro _ w1 ⟨er, rfl, hck, hb1⟩
  by_cases h0 : er = 0
  · subst h0
    obtain ⟨hok, hle⟩ := hck.zero
    have HCE : Hid (ok6 lab hs fr id off more proto ∧ ahead6 hs fr + body.length ≤ 65535 + 40) := ⟨hok, hle⟩
    obtain ⟨x1, rfl⟩ : ∃ x : Hi W0, w1 = x.W := ⟨(Hi.refl _).more hb1, rfl⟩
    have hA := ahead6_le fr hok.2.1
    have ha := HAH.out hok.2.1
    rw [ahead6_int] at ha
    have HA : Hid _ := ha
    have k41 := K41.out
    have v1 : IntKind.i64.wrap ((ahead6 hs fr : Int) + body.length) = ahead6 hs fr + body.length := wrapi64 _ (by omega)
    clear ha hck hok HAH HCK hb1 HL0 K41
    go_wp2_with fail
    refine wp_region_up (by kernel_rfl) (by kernel_rfl) ?_
    repeat (first
      | go_big_quiet_skip
      | (go_big_quiet_want; refine hi_load (.tmp 1) 28 rfl rfl HLA.out ?_; simp only [Act.put, List.setIfInBounds_toArray, List.set_cons_zero, List.set_cons_succ]; go_big_quiet_on)
      | (go_big_quiet_want; go_big_quiet_op; first | go_big_quiet_on | go_big_quiet_call (first | (go_at_call 24; exact Hi.calls (HA.out _)))))
    refine wpQuiet_nil ?_
    intro _ hw
    obtain ⟨y, rfl⟩ := hw
    go_wp2
    go_ret3
    exact ⟨0, by simp, .inr (.inr ⟨HCE.out.1, HCE.out.2, rfl⟩), HBW.out _⟩
  · have q : (er != 0) = true := by simp [h0]
    have HCE : Hid _ := hck
    clear hck
    go_wp2_with fail
    go_ret3
    exact ⟨er, by simp [h0], HCE.out, HBW.out ((Hi.refl _).more hb1)⟩
end

end Go.Proofs.Ytbaeogoojpngbaa
