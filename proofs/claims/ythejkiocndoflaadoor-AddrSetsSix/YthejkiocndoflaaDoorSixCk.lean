/-
  The walk of the statement AddrChecksSix out of contracts.
-/
import Derived.Test.YthejkiocndoflaaDoorSixM
namespace Go.Proofs.YthejkiocndoflaaDoor
open Go Go.RowKit
set_option linter.unusedVariables false
set_option linter.unusedSimpArgs false

def Both (f g : FuncId) (args : Array Value) (v : Value) : Prop := ∀ w : World, Calls Tryd.prog f args w (fun e w' => e = .returned v ∧ Below w.heap.size w w') ∧ Calls Tryd.prog g args w (fun e w' => e = .returned v ∧ Below w.heap.size w w')

theorem three_new (w : World) (o1 o2 o3 : Obj) {w' : World} (hb : Below (((w.alloc o1).alloc o2).alloc o3).heap.size (((w.alloc o1).alloc o2).alloc o3) w') :
    Below w.heap.size w w' ∧ w'.heap[w.heap.size]? = some o1 ∧ w'.heap[w.heap.size + 1]? = some o2 ∧ w'.heap[w.heap.size + 1 + 1]? = some o3 := by
  have h0 : Below ((w.alloc o1).alloc o2).heap.size ((w.alloc o1).alloc o2) (((w.alloc o1).alloc o2).alloc o3) := (Below.refl _ _).alloc (Nat.le_refl _) _
  obtain ⟨a, b, c⟩ := two_new w o1 o2 (h0.trans (hb.mono h0.size))
  have e := blk_on (blk_new ((w.alloc o1).alloc o2) o3) hb
  rw [World.size_alloc, World.size_alloc] at e
  exact ⟨a, b, c, e⟩

theorem CellsAt.lt' {w : World} {b o : Nat} {vs : List Value} (h : CellsAt w b o vs) (hp : 0 < vs.length) : b < w.heap.size := by
  cases vs with
  | nil => simp at hp
  | cons v r => exact h.lt

theorem Hi.adr {w : World} {b : Nat} {l : List Int} {t : TypeId} (hl : l.length = 16) (h : w.heap[b]? = some (.cells (u8s l).toArray t)) :
    ∀ x : Hi w, (Instr.loadAt 31 (.pointer (some ⟨b, 0, none⟩))).run Tryd.prog x.W = .ok (A6 l) x.W := fun x => load6 hl (CellsAt.of_blk (Hi.blk h x))

set_option maxHeartbeats 4000000 in
set_option maxRecDepth 100000 in
theorem checksSix_core (l q a r : List Int) (n m k rn : Int) (x c : Bool) (e g i kk : Int) (w : World) (hl : l.length = 16) (hq : q.length = 16) (ha : a.length = 16) (hr : r.length = 16) (fr : FitB r)
    (h1 : Both 40 41 #[P6 l n, A6 a] (.tuple #[.bool x, .int .i64 e]))
    (h2 : Both 42 43 #[P6 l n, P6 q m] (.tuple #[.bool c, .int .i64 g]))
    (h3 : Both 44 45 #[A6 a, .int .i64 k] (.tuple #[P6 r rn, .int .i64 i]))
    (h5 : Both 46 47 #[P6 l n] (.int .i64 kk))
    (h6 : ∀ w' : World, Below w.heap.size w w' → Calls Tryd.prog 17 #[] w' fun e w'' => e = .returned (.bool true) ∧ Below w'.heap.size w' w'') :
    Calls Tryd.prog 8 #[P6 l n, P6 q m, A6 a, .int .i64 k] w fun e w' => e = .returned (.bool true) ∧ Below w.heap.size w w' := by
  have H6 : Hid _ := h6
  have heq : ∀ W, (Op.equalIn 9999 31 (.agg (u8s r).toArray) (.agg (u8s r).toArray)).run Tryd.prog W = .ok true W := fun W => by
    have := eq_arr16 9997 r r fr fr hr hr W
    rwa [decide_eq_true rfl] at this
  have tk := cp6_take r rn hr
  have sn := cp6_get r rn hr
  have b1 := fun w' => @three_new w (.cells (cp6 l n).toArray 40) (.cells (cp6 q m).toArray 40) (.cells (u8s a).toArray 31) w'
  have b0 := b1 _ (Below.refl _ _)
  have HL : Hid _ := loadP6 hl (CellsAt.pfx hl b0.2.1).1
  have HA : Hid _ := load6 ha (CellsAt.of_blk b0.2.2.2)
  have hbl := b0.1
  have HLP : Hid _ := (Hi.pfx hl b0.2.1).1
  have HLQ : Hid _ := (Hi.pfx hq b0.2.2.1).1
  have HLA : Hid _ := Hi.adr ha b0.2.2.2
  have BLP : Hid _ := b0.2.1
  clear b0 b1 h6
  go_enter Tryd.func8, Tryd.ntmps8
  go_wp2_with first
    | ((with_reducible show wpList _ _ _ _ _ _); refine arm_load rfl (.tmp 4) 40 rfl rfl (HL.out) ?_)
    | ((with_reducible show wpList _ _ _ _ _ _); refine arm_load rfl (.tmp 6) 31 rfl rfl (HA.out) ?_)
  refine Calls.mono (h1 _).1 ?_
  rintro e1 w1 ⟨rfl, hb1⟩
  obtain ⟨x1, rfl⟩ : ∃ x : Hi (((w.alloc (.cells (cp6 l n).toArray 40)).alloc (.cells (cp6 q m).toArray 40)).alloc (.cells (u8s a).toArray 31)), w1 = x.W := ⟨⟨w1, hb1⟩, rfl⟩
  clear hb1
  go_wp2_with first
    | ((with_reducible show wpList _ _ _ _ _ _); refine arm_load rfl (.tmp 4) 40 rfl rfl (HLP.out _) ?_)
    | ((with_reducible show wpList _ _ _ _ _ _); refine arm_load rfl (.tmp 5) 40 rfl rfl (HLQ.out _) ?_)
    | ((with_reducible show wpList _ _ _ _ _ _); refine arm_load rfl (.tmp 6) 31 rfl rfl (HLA.out _) ?_)
  refine Calls.mono (Hi.calls (h1 _).2) ?_
  rintro e2 w2 ⟨rfl, x2, rfl⟩
  go_wp2_with first
    | ((with_reducible show wpList _ _ _ _ _ _); refine arm_load rfl (.tmp 4) 40 rfl rfl (HLP.out _) ?_)
    | ((with_reducible show wpList _ _ _ _ _ _); refine arm_load rfl (.tmp 5) 40 rfl rfl (HLQ.out _) ?_)
    | ((with_reducible show wpList _ _ _ _ _ _); refine arm_load rfl (.tmp 6) 31 rfl rfl (HLA.out _) ?_)
  refine Calls.mono (Hi.calls (h2 _).1) ?_
  rintro e3 w3 ⟨rfl, x3, rfl⟩
  go_wp2_with first
    | ((with_reducible show wpList _ _ _ _ _ _); refine arm_load rfl (.tmp 4) 40 rfl rfl (HLP.out _) ?_)
    | ((with_reducible show wpList _ _ _ _ _ _); refine arm_load rfl (.tmp 5) 40 rfl rfl (HLQ.out _) ?_)
    | ((with_reducible show wpList _ _ _ _ _ _); refine arm_load rfl (.tmp 6) 31 rfl rfl (HLA.out _) ?_)
  refine Calls.mono (Hi.calls (h2 _).2) ?_
  rintro e4 w4 ⟨rfl, x4, rfl⟩
  go_wp2_with first
    | ((with_reducible show wpList _ _ _ _ _ _); refine arm_load rfl (.tmp 4) 40 rfl rfl (HLP.out _) ?_)
    | ((with_reducible show wpList _ _ _ _ _ _); refine arm_load rfl (.tmp 5) 40 rfl rfl (HLQ.out _) ?_)
    | ((with_reducible show wpList _ _ _ _ _ _); refine arm_load rfl (.tmp 6) 31 rfl rfl (HLA.out _) ?_)
  refine Calls.mono (Hi.calls (h3 _).1) ?_
  rintro e5 w5 ⟨rfl, x5, rfl⟩
  have hbl5 := hbl.trans (x5.below.mono hbl.size)
  have hslot := Slot6.zero (blk_new x5.W _)
  obtain ⟨w6, hst, hres, hbel, hcr⟩ := hslot.put r rn hr
  have hB6 := hbel w.heap.size w hbl5.size (hbl5.alloc hbl5.size _)
  have hx6 := hbel x5.W.heap.size x5.W (Nat.le_refl _) ((Below.refl _ x5.W).alloc (Nat.le_refl _) _)
  have hcrlt : x5.W.heap.size < w6.heap.size := hcr.lt' (by rw [cp6_length _ _ hr]; decide)
  have ha6 : (Instr.loadAt 31 (.pointer (some ⟨w.heap.size + 1 + 1, 0, none⟩))).run Tryd.prog w6 = .ok (A6 a) w6 := HLA.out (x5.more hx6)
  have bp6 : w6.heap[w.heap.size]? = some (.cells (cp6 l n).toArray 40) := blk_on BLP.out (x5.more hx6).below
  have HS : Hid _ := hst
  have HA6 : Hid _ := ha6
  have BP6 : Hid _ := bp6
  have HCR : Hid _ := hcr
  clear hst hres hbel hcr ha6 bp6 hx6 hslot hbl5 HLP HLQ HLA BLP hbl HL HA
  go_wp2_with first
    | ((with_reducible show wpList _ _ _ _ _ _); refine arm_store rfl _ _ 40 rfl rfl rfl HS.out ?_)
    | ((with_reducible show wpList _ _ _ _ _ _); refine arm_load rfl (.tmp 6) 31 rfl rfl (HA6.out) ?_)
  refine Calls.mono (h3 _).2 ?_
  rintro e6 w7 ⟨rfl, hb7⟩
  have hbl7 := hB6.trans (hb7.mono hB6.size)
  have bp7 := blk_on BP6.out hb7
  have hcr7 : CellsAt w7 x5.W.heap.size 0 (cp6 r rn) := CellsAt.up HCR.out hcrlt ⟨w7, hb7⟩
  have hlt7 := Nat.lt_of_lt_of_le hcrlt hb7.size
  have hslot := Slot6.zero (blk_new w7 _)
  obtain ⟨w8, hst, hres, hbel, hcs⟩ := hslot.put r rn hr
  have hbl8 := hbel w.heap.size w hbl7.size (hbl7.alloc hbl7.size _)
  have hx8 := hbel w7.heap.size w7 (Nat.le_refl _) ((Below.refl _ w7).alloc (Nat.le_refl _) _)
  have hcslt : w7.heap.size < w8.heap.size := hcs.lt' (by rw [cp6_length _ _ hr]; decide)
  have hcr8 : CellsAt w8 x5.W.heap.size 0 (cp6 r rn) := CellsAt.up hcr7 hlt7 ⟨w8, hx8⟩
  have hlt8 := Nat.lt_of_lt_of_le hlt7 hx8.size
  have HPP : Hid _ := (Hi.pfx hl (blk_on bp7 hx8)).1
  have HRR : Hid (∀ x : Hi w8, (Instr.loadAt 40 (.pointer (some ⟨x5.W.heap.size, 0, none⟩))).run Tryd.prog x.W = .ok (P6 r rn) x.W) := fun x => loadP6 hr (hcr8.up hlt8 x)
  have HSS : Hid (∀ x : Hi w8, (Instr.loadAt 40 (.pointer (some ⟨w7.heap.size, 0, none⟩))).run Tryd.prog x.W = .ok (P6 r rn) x.W) := fun x => loadP6 hr (hcs.up hcslt x)
  have HS2 : Hid _ := hst
  have H5 : Hid _ := h5
  clear hst hres hbel hcs hslot hcr8 hcr7 hx8 hlt8 hcslt hlt7 bp7 hb7 HS HA6 BP6 HCR hcrlt hbl7 h1 h2 h3 h5
  go_wp2_with ((with_reducible show wpList _ _ _ _ _ _); refine arm_store rfl _ _ 40 rfl rfl rfl HS2.out ?_)
  refine wp_region_hi (by kernel_rfl) (by kernel_rfl) ?_
  repeat (first
    | go_big_quiet_skip
    | (go_big_quiet_want; refine hi_load (.tmp 4) 40 rfl rfl HPP.out ?_; simp only [Act.put, List.setIfInBounds_toArray, List.set_cons_zero, List.set_cons_succ]; go_big_quiet_on)
    | (go_big_quiet_want; refine hi_load (.tmp 17) 40 rfl rfl HRR.out ?_; simp only [Act.put, List.setIfInBounds_toArray, List.set_cons_zero, List.set_cons_succ]; go_big_quiet_on)
    | (go_big_quiet_want; refine hi_load (.tmp 19) 40 rfl rfl HSS.out ?_; simp only [Act.put, List.setIfInBounds_toArray, List.set_cons_zero, List.set_cons_succ]; go_big_quiet_on)
    | (go_big_quiet_want; go_big_quiet_op; first | go_big_quiet_on | go_big_quiet_call (first | (go_at_call 46; exact Hi.calls (H5.out _).1) | (go_at_call 47; exact Hi.calls (H5.out _).2) | (go_at_call 17; exact Hi.calls (H6.out _ (hbl8.trans (Hi.below _ |>.mono hbl8.size)))))))
  refine wpQuiet_nil ?_
  intro _ hw
  obtain ⟨y, rfl⟩ := hw
  go_wp2
  go_ret
  exact ⟨rfl, hbl8.trans (y.below.mono hbl8.size)⟩

end Go.Proofs.YthejkiocndoflaaDoor
