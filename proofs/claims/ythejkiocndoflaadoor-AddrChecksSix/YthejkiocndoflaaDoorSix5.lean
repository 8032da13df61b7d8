/-
  IPv6 prefixes: Cover6 and Has6 of the program.
-/
import Derived.Test.YthejkiocndoflaaDoorSix4
namespace Go.Proofs.YthejkiocndoflaaDoor
open Go Go.RowKit
set_option linter.unusedVariables false
set_option linter.unusedSimpArgs false

def cov6 (l : List Int) (n : Int) (k : List Int) (m : Int) : Bool := decide (n ≤ m) && decide (l = blR n k)
def both6 (l : List Int) (n : Int) (k : List Int) (m : Int) : Bool := okP6 l n && okP6 k m

theorem two_new (w : World) (o1 o2 : Obj) {w' : World} (hb : Below ((w.alloc o1).alloc o2).heap.size ((w.alloc o1).alloc o2) w') :
    Below w.heap.size w w' ∧ w'.heap[w.heap.size]? = some o1 ∧ w'.heap[w.heap.size + 1]? = some o2 := by
  have e1 := blk_on (blk_alloc (blk_new w o1) o2) hb
  have e2 := blk_on (blk_new (w.alloc o1) o2) hb
  rw [World.size_alloc] at e2
  have hB : Below w.heap.size w ((w.alloc o1).alloc o2) := ((Below.refl _ w).alloc (Nat.le_refl _) _).alloc (by simp) _
  exact ⟨hB.trans (hb.mono hB.size), e1, e2⟩

/-- A prefix that lies in a box: its parts, in every world above. -/
theorem Hi.pfx {w : World} {b : Nat} {l : List Int} {n : Int} {t : TypeId} (hl : l.length = 16) (h : w.heap[b]? = some (.cells (cp6 l n).toArray t)) :
    (∀ x : Hi w, (Instr.loadAt 40 (.pointer (some ⟨b, 0, none⟩))).run Tryd.prog x.W = .ok (P6 l n) x.W) ∧
    (∀ x : Hi w, (Instr.loadAt 31 (.pointer (some ⟨b, 0, none⟩))).run Tryd.prog x.W = .ok (A6 l) x.W) ∧ (∀ x : Hi w, x.W.cell? ⟨b, 16, none⟩ = some (.int .i64 n)) :=
  ⟨fun x => loadP6 hl (CellsAt.pfx hl (Hi.blk h x)).1, fun x => load6 hl (CellsAt.pfx hl (Hi.blk h x)).2.1, fun x => (CellsAt.pfx hl (Hi.blk h x)).2.2⟩

set_option maxHeartbeats 4000000 in
set_option maxRecDepth 100000 in
theorem Cover6_in (l : List Int) (n : Int) (k : List Int) (m : Int) (w : World) (hf : FitB l) (hl : l.length = 16) (kf : FitB k) (kl : k.length = 16) (h1 : okP6 l n = true) (h2 : okP6 k m = true) :
    Calls Tryd.prog 42 #[P6 l n, P6 k m] w fun e w' => e = .returned (.tuple #[.bool (cov6 l n k m), .int .i64 0]) ∧ Below w.heap.size w w' := by
  have hn : 0 ≤ n ∧ n ≤ 128 := by simp [okP6] at h1; exact h1.1
  have hm : 0 ≤ m ∧ m ≤ 128 := by simp [okP6] at h2; exact h2.1
  have hlen : (blR n k).length = 16 := by rw [blR_length, kl]
  have c1 := fun w => Check6_calls l n w hf hl (by omega)
  have c2 := fun w => Check6_calls k m w kf kl (by omega)
  rw [h1] at c1
  rw [h2] at c2
  simp only [if_true] at c1 c2
  have hcut := fun w => cut6_calls k n w kf kl hn
  have heq : ∀ W, (Op.equalIn 9999 31 (.agg (u8s l).toArray) (.agg (u8s (blR n k)).toArray)).run Tryd.prog W = .ok (decide (l = blR n k)) W := fun W => eq_arr16 9997 l (blR n k) hf (blR_fit kf) hl hlen W
  have tk1 := cp6_take l n hl
  have tk2 := cp6_take (blR n k) n hlen
  have sn1 := cp6_get l n hl
  have sn2 := cp6_get (blR n k) n hlen
  have b0 := blk_alloc (blk_new w (.cells (cp6 l n).toArray 40)) (.cells (cp6 k m).toArray 40)
  have b1 := fun w' => @two_new w (.cells (cp6 l n).toArray 40) (.cells (cp6 k m).toArray 40) w'
  have HL : Hid _ := loadP6 hl (CellsAt.pfx hl b0).1
  have HC1 : Hid _ := c1
  have HC2 : Hid _ := c2
  have HCU : Hid _ := hcut
  have HB1 : Hid _ := b1
  clear c1 c2 hcut b0 b1 h1 h2
  unfold cov6
  generalize hdd : decide (n ≤ m) = dd at *
  generalize decide (l = blR n k) = bb at *
  generalize blR n k = x at *
  go_enter Tryd.func42, Tryd.ntmps42
  go_wp2_with ((with_reducible show wpList _ _ _ _ _ _); refine arm_load rfl _ 40 rfl rfl HL.out ?_)
  refine Calls.mono (HC1.out _) ?_
  rintro e w1 ⟨rfl, hb1⟩
  obtain ⟨hbl, bp, bq⟩ := HB1.out w1 hb1
  obtain ⟨lp, la, cp⟩ := Hi.pfx hl bp
  obtain ⟨mp, ma, cm⟩ := Hi.pfx kl bq
  have HQ : Hid _ := loadP6 kl (CellsAt.pfx kl bq).1
  have LP : Hid _ := lp
  have MA : Hid _ := ma
  clear HB1 HL HC1 bp bq hb1 lp la mp ma
  go_wp2_with ((with_reducible show wpList _ _ _ _ _ _); refine arm_load rfl _ 40 rfl rfl HQ.out ?_)
  refine Calls.mono (HC2.out _) ?_
  rintro e w2 ⟨rfl, hb2⟩
  obtain ⟨x2, rfl⟩ : ∃ x : Hi w1, w2 = x.W := ⟨⟨w2, hb2⟩, rfl⟩
  clear hb2 HQ HC2
  go_wp2_with fail
  cases dd <;> cases bb
  all_goals
    refine wp_region_up (by kernel_rfl) (by kernel_rfl) ?_
    repeat (first
      | go_big_quiet_skip
      | (go_big_quiet_want; refine hi_load (.tmp 2) 40 rfl rfl LP.out ?_; simp only [Act.put, List.setIfInBounds_toArray, List.set_cons_zero, List.set_cons_succ]; go_big_quiet_on)
      | (go_big_quiet_want; refine hi_load (.tmp 21) 31 rfl rfl MA.out ?_; simp only [Act.put, List.setIfInBounds_toArray, List.set_cons_zero, List.set_cons_succ]; go_big_quiet_on)
      | (go_big_quiet_want; go_big_quiet_op; first | go_big_quiet_on | go_big_quiet_call (first | (go_at_call 70; exact Hi.calls (HCU.out _)))))
    refine wpQuiet_nil ?_
    intro _ hw
    obtain ⟨y, rfl⟩ := hw
    go_wp2
    go_ret2
    exact ⟨rfl, hbl.trans (y.below.mono hbl.size)⟩

set_option maxHeartbeats 4000000 in
set_option maxRecDepth 100000 in
theorem Cover6_out (l : List Int) (n : Int) (k : List Int) (m : Int) (w : World) (hf : FitB l) (hl : l.length = 16) (kf : FitB k) (kl : k.length = 16) (hn : -9223372036854775808 ≤ n ∧ n ≤ 9223372036854775807) (hm : -9223372036854775808 ≤ m ∧ m ≤ 9223372036854775807) (hb : both6 l n k m = false) :
    Calls Tryd.prog 42 #[P6 l n, P6 k m] w fun e w' => e = .returned (.tuple #[.bool false, .int .i64 22]) ∧ Below w.heap.size w w' := by
  have c1 := fun w => Check6_calls l n w hf hl hn
  have c2 := fun w => Check6_calls k m w kf kl hm
  have b0 := blk_alloc (blk_new w (.cells (cp6 l n).toArray 40)) (.cells (cp6 k m).toArray 40)
  have b1 := fun w' => @two_new w (.cells (cp6 l n).toArray 40) (.cells (cp6 k m).toArray 40) w'
  have HL : Hid _ := loadP6 hl (CellsAt.pfx hl b0).1
  have HB1 : Hid _ := b1
  unfold both6 at hb
  cases h1 : okP6 l n
  · rw [h1] at c1
    have HC1 : Hid _ := c1
    clear b0 b1 c1 c2 h1 hb
    go_enter Tryd.func42, Tryd.ntmps42
    go_wp2_with ((with_reducible show wpList _ _ _ _ _ _); refine arm_load rfl _ 40 rfl rfl HL.out ?_)
    refine Calls.mono (HC1.out _) ?_
    rintro e w1 ⟨rfl, hb1⟩
    have hbl := (HB1.out w1 hb1).1
    go_wp2
    go_ret2
    exact ⟨rfl, hbl⟩
  · rw [h1, Bool.true_and] at hb
    rw [h1] at c1
    rw [hb] at c2
    have HC1 : Hid _ := c1
    have HC2 : Hid _ := c2
    clear b0 b1 c1 c2 h1 hb
    go_enter Tryd.func42, Tryd.ntmps42
    go_wp2_with ((with_reducible show wpList _ _ _ _ _ _); refine arm_load rfl _ 40 rfl rfl HL.out ?_)
    refine Calls.mono (HC1.out _) ?_
    rintro e w1 ⟨rfl, hb1⟩
    obtain ⟨hbl, bp, bq⟩ := HB1.out w1 hb1
    have HQ : Hid _ := loadP6 kl (CellsAt.pfx kl bq).1
    clear HB1 HL HC1 bp bq hb1
    go_wp2_with ((with_reducible show wpList _ _ _ _ _ _); refine arm_load rfl _ 40 rfl rfl HQ.out ?_)
    refine Calls.mono (HC2.out _) ?_
    rintro e w2 ⟨rfl, hb2⟩
    go_wp2
    go_ret2
    exact ⟨rfl, hbl.trans (hb2.mono hbl.size)⟩

theorem Cover6_calls (l : List Int) (n : Int) (k : List Int) (m : Int) (w : World) (hf : FitB l) (hl : l.length = 16) (kf : FitB k) (kl : k.length = 16) (hn : -9223372036854775808 ≤ n ∧ n ≤ 9223372036854775807) (hm : -9223372036854775808 ≤ m ∧ m ≤ 9223372036854775807) :
    Calls Tryd.prog 42 #[P6 l n, P6 k m] w fun e w' => e = .returned (.tuple #[.bool (both6 l n k m && cov6 l n k m), .int .i64 (if both6 l n k m then 0 else 22)]) ∧ Below w.heap.size w w' := by
  cases hb : both6 l n k m
  · exact Cover6_out l n k m w hf hl kf kl hn hm hb
  · have hb' := hb
    unfold both6 at hb'
    rw [Bool.and_eq_true] at hb'
    exact Cover6_in l n k m w hf hl kf kl hb'.1 hb'.2

end Go.Proofs.YthejkiocndoflaaDoor
