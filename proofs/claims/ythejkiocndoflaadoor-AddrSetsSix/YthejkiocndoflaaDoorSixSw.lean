/-
  The walk of the statement AddrSetsSix out of contracts, where one prefix may not be.
-/
import Derived.Test.YthejkiocndoflaaDoorSixCk
namespace Go.Proofs.YthejkiocndoflaaDoor
open Go Go.RowKit
set_option linter.unusedVariables false
set_option linter.unusedSimpArgs false


def Lone (f : FuncId) (args : Array Value) (v : Value) : Prop := ∀ w : World, Calls Tryd.prog f args w (fun e w' => e = .returned v ∧ Below w.heap.size w w')

theorem four_new (w : World) (o1 o2 o3 o4 : Obj) {w' : World} (hb : Below ((((w.alloc o1).alloc o2).alloc o3).alloc o4).heap.size ((((w.alloc o1).alloc o2).alloc o3).alloc o4) w') :
    Below w.heap.size w w' ∧ w'.heap[w.heap.size]? = some o1 ∧ w'.heap[w.heap.size + 1]? = some o2 ∧ w'.heap[w.heap.size + 1 + 1]? = some o3 ∧ w'.heap[w.heap.size + 1 + 1 + 1]? = some o4 := by
  have h0 : Below (((w.alloc o1).alloc o2).alloc o3).heap.size (((w.alloc o1).alloc o2).alloc o3) ((((w.alloc o1).alloc o2).alloc o3).alloc o4) := (Below.refl _ _).alloc (Nat.le_refl _) _
  obtain ⟨a, b, c, d⟩ := three_new w o1 o2 o3 (h0.trans (hb.mono h0.size))
  have e := blk_on (blk_new (((w.alloc o1).alloc o2).alloc o3) o4) hb
  rw [World.size_alloc, World.size_alloc, World.size_alloc] at e
  exact ⟨a, b, c, d, e⟩

set_option maxHeartbeats 4000000 in
set_option maxRecDepth 100000 in
theorem setsSix_bad (a b c d : List Int) (n m k : Int) (x y z u : Bool) (w : World) (ok1 ok2 ok3 : Bool) (hbad : (ok1 && ok2 && ok3) = false) (la : a.length = 16) (lb : b.length = 16) (lc : c.length = 16) (ld : d.length = 16)
    (h1 : Lone 42 #[P6 a n, P6 b m] (.tuple #[.bool x, .int .i64 (if ok1 && ok2 then 0 else 22)]))
    (h2 : Lone 42 #[P6 b m, P6 a n] (.tuple #[.bool y, .int .i64 (if ok2 && ok1 then 0 else 22)]))
    (h3 : Lone 42 #[P6 b m, P6 c k] (.tuple #[.bool z, .int .i64 (if ok2 && ok3 then 0 else 22)]))
    (h4 : Lone 42 #[P6 a n, P6 c k] (.tuple #[.bool u, .int .i64 (if ok1 && ok3 then 0 else 22)]))
    (g1 : Lone 47 #[P6 a n] (.int .i64 (if ok1 then 0 else 22)))
    (g2 : Lone 47 #[P6 b m] (.int .i64 (if ok2 then 0 else 22)))
    (g3 : Lone 47 #[P6 c k] (.int .i64 (if ok3 then 0 else 22)))
    (h6 : ∀ w' : World, Below w.heap.size w w' → Calls Tryd.prog 17 #[] w' fun e w'' => e = .returned (.bool true) ∧ Below w'.heap.size w' w'') :
    Calls Tryd.prog 12 #[P6 a n, P6 b m, P6 c k, A6 d] w fun e w' => e = .returned (.bool true) ∧ Below w.heap.size w w' := by
  have G1 : Hid _ := g1
  have G2 : Hid _ := g2
  have G3 : Hid _ := g3
  clear g1 g2 g3
  cases ok1 <;> cases ok2 <;> cases ok3
  · have H6 : Hid _ := h6
    have b0 := four_new w (.cells (cp6 a n).toArray 40) (.cells (cp6 b m).toArray 40) (.cells (cp6 c k).toArray 40) (.cells (u8s d).toArray 31) (Below.refl _ _)
    have hbl := b0.1
    have HLP : Hid _ := (Hi.pfx la b0.2.1).1
    have HLQ : Hid _ := (Hi.pfx lb b0.2.2.1).1
    have HLR : Hid _ := (Hi.pfx lc b0.2.2.2.1).1
    have HLD : Hid _ := Hi.adr ld b0.2.2.2.2
    have HPA : Hid _ := (Hi.pfx la b0.2.1).2.1
    have HQA : Hid _ := (Hi.pfx lb b0.2.2.1).2.1
    clear b0 h6
    go_enter Tryd.func12, Tryd.ntmps12
    go_wp2_with fail
    refine Calls.mono (H6.out _ hbl) ?_
    rintro e0 w1 ⟨rfl, hb⟩
    obtain ⟨x1, rfl⟩ : ∃ x : Hi ((((w.alloc (.cells (cp6 a n).toArray 40)).alloc (.cells (cp6 b m).toArray 40)).alloc (.cells (cp6 c k).toArray 40)).alloc (.cells (u8s d).toArray 31)), w1 = x.W := ⟨⟨w1, hb⟩, rfl⟩
    clear hb H6
    go_wp2_with first
      | ((with_reducible show wpList _ _ _ _ _ _); refine arm_load rfl (.tmp 4) 40 rfl rfl (HLP.out _) ?_)
      | ((with_reducible show wpList _ _ _ _ _ _); refine arm_load rfl (.tmp 5) 40 rfl rfl (HLQ.out _) ?_)
      | ((with_reducible show wpList _ _ _ _ _ _); refine arm_load rfl (.tmp 6) 40 rfl rfl (HLR.out _) ?_)
      | ((with_reducible show wpList _ _ _ _ _ _); refine arm_load rfl (.tmp 7) 31 rfl rfl (HLD.out _) ?_)
    refine Calls.mono (Hi.calls (h1 _)) ?_
    rintro e1 w2 ⟨rfl, x2, rfl⟩
    go_wp2_with first
      | ((with_reducible show wpList _ _ _ _ _ _); refine arm_load rfl (.tmp 4) 40 rfl rfl (HLP.out _) ?_)
      | ((with_reducible show wpList _ _ _ _ _ _); refine arm_load rfl (.tmp 5) 40 rfl rfl (HLQ.out _) ?_)
      | ((with_reducible show wpList _ _ _ _ _ _); refine arm_load rfl (.tmp 6) 40 rfl rfl (HLR.out _) ?_)
      | ((with_reducible show wpList _ _ _ _ _ _); refine arm_load rfl (.tmp 7) 31 rfl rfl (HLD.out _) ?_)
    refine Calls.mono (Hi.calls (h2 _)) ?_
    rintro e2 w3 ⟨rfl, x3, rfl⟩
    go_wp2_with first
      | ((with_reducible show wpList _ _ _ _ _ _); refine arm_load rfl (.tmp 4) 40 rfl rfl (HLP.out _) ?_)
      | ((with_reducible show wpList _ _ _ _ _ _); refine arm_load rfl (.tmp 5) 40 rfl rfl (HLQ.out _) ?_)
      | ((with_reducible show wpList _ _ _ _ _ _); refine arm_load rfl (.tmp 6) 40 rfl rfl (HLR.out _) ?_)
      | ((with_reducible show wpList _ _ _ _ _ _); refine arm_load rfl (.tmp 7) 31 rfl rfl (HLD.out _) ?_)
    refine Calls.mono (Hi.calls (h3 _)) ?_
    rintro e3 w4 ⟨rfl, x4, rfl⟩
    go_wp2_with first
      | ((with_reducible show wpList _ _ _ _ _ _); refine arm_load rfl (.tmp 4) 40 rfl rfl (HLP.out _) ?_)
      | ((with_reducible show wpList _ _ _ _ _ _); refine arm_load rfl (.tmp 5) 40 rfl rfl (HLQ.out _) ?_)
      | ((with_reducible show wpList _ _ _ _ _ _); refine arm_load rfl (.tmp 6) 40 rfl rfl (HLR.out _) ?_)
      | ((with_reducible show wpList _ _ _ _ _ _); refine arm_load rfl (.tmp 7) 31 rfl rfl (HLD.out _) ?_)
    refine Calls.mono (Hi.calls (h4 _)) ?_
    rintro e4 w5 ⟨rfl, x5, rfl⟩
    go_wp2_with first
      | ((with_reducible show wpList _ _ _ _ _ _); refine arm_load rfl (.tmp 4) 40 rfl rfl (HLP.out _) ?_)
      | ((with_reducible show wpList _ _ _ _ _ _); refine arm_load rfl (.tmp 5) 40 rfl rfl (HLQ.out _) ?_)
      | ((with_reducible show wpList _ _ _ _ _ _); refine arm_load rfl (.tmp 6) 40 rfl rfl (HLR.out _) ?_)
      | ((with_reducible show wpList _ _ _ _ _ _); refine arm_load rfl (.tmp 7) 31 rfl rfl (HLD.out _) ?_)
    refine Calls.mono (Hi.calls (G1.out _)) ?_
    rintro e5 w6 ⟨rfl, x6, rfl⟩
    go_wp2
    go_ret
    exact ⟨rfl, hbl.trans (x6.below.mono hbl.size)⟩
  · have H6 : Hid _ := h6
    have b0 := four_new w (.cells (cp6 a n).toArray 40) (.cells (cp6 b m).toArray 40) (.cells (cp6 c k).toArray 40) (.cells (u8s d).toArray 31) (Below.refl _ _)
    have hbl := b0.1
    have HLP : Hid _ := (Hi.pfx la b0.2.1).1
    have HLQ : Hid _ := (Hi.pfx lb b0.2.2.1).1
    have HLR : Hid _ := (Hi.pfx lc b0.2.2.2.1).1
    have HLD : Hid _ := Hi.adr ld b0.2.2.2.2
    have HPA : Hid _ := (Hi.pfx la b0.2.1).2.1
    have HQA : Hid _ := (Hi.pfx lb b0.2.2.1).2.1
    clear b0 h6
    go_enter Tryd.func12, Tryd.ntmps12
    go_wp2_with fail
    refine Calls.mono (H6.out _ hbl) ?_
    rintro e0 w1 ⟨rfl, hb⟩
    obtain ⟨x1, rfl⟩ : ∃ x : Hi ((((w.alloc (.cells (cp6 a n).toArray 40)).alloc (.cells (cp6 b m).toArray 40)).alloc (.cells (cp6 c k).toArray 40)).alloc (.cells (u8s d).toArray 31)), w1 = x.W := ⟨⟨w1, hb⟩, rfl⟩
    clear hb H6
    go_wp2_with first
      | ((with_reducible show wpList _ _ _ _ _ _); refine arm_load rfl (.tmp 4) 40 rfl rfl (HLP.out _) ?_)
      | ((with_reducible show wpList _ _ _ _ _ _); refine arm_load rfl (.tmp 5) 40 rfl rfl (HLQ.out _) ?_)
      | ((with_reducible show wpList _ _ _ _ _ _); refine arm_load rfl (.tmp 6) 40 rfl rfl (HLR.out _) ?_)
      | ((with_reducible show wpList _ _ _ _ _ _); refine arm_load rfl (.tmp 7) 31 rfl rfl (HLD.out _) ?_)
    refine Calls.mono (Hi.calls (h1 _)) ?_
    rintro e1 w2 ⟨rfl, x2, rfl⟩
    go_wp2_with first
      | ((with_reducible show wpList _ _ _ _ _ _); refine arm_load rfl (.tmp 4) 40 rfl rfl (HLP.out _) ?_)
      | ((with_reducible show wpList _ _ _ _ _ _); refine arm_load rfl (.tmp 5) 40 rfl rfl (HLQ.out _) ?_)
      | ((with_reducible show wpList _ _ _ _ _ _); refine arm_load rfl (.tmp 6) 40 rfl rfl (HLR.out _) ?_)
      | ((with_reducible show wpList _ _ _ _ _ _); refine arm_load rfl (.tmp 7) 31 rfl rfl (HLD.out _) ?_)
    refine Calls.mono (Hi.calls (h2 _)) ?_
    rintro e2 w3 ⟨rfl, x3, rfl⟩
    go_wp2_with first
      | ((with_reducible show wpList _ _ _ _ _ _); refine arm_load rfl (.tmp 4) 40 rfl rfl (HLP.out _) ?_)
      | ((with_reducible show wpList _ _ _ _ _ _); refine arm_load rfl (.tmp 5) 40 rfl rfl (HLQ.out _) ?_)
      | ((with_reducible show wpList _ _ _ _ _ _); refine arm_load rfl (.tmp 6) 40 rfl rfl (HLR.out _) ?_)
      | ((with_reducible show wpList _ _ _ _ _ _); refine arm_load rfl (.tmp 7) 31 rfl rfl (HLD.out _) ?_)
    refine Calls.mono (Hi.calls (h3 _)) ?_
    rintro e3 w4 ⟨rfl, x4, rfl⟩
    go_wp2_with first
      | ((with_reducible show wpList _ _ _ _ _ _); refine arm_load rfl (.tmp 4) 40 rfl rfl (HLP.out _) ?_)
      | ((with_reducible show wpList _ _ _ _ _ _); refine arm_load rfl (.tmp 5) 40 rfl rfl (HLQ.out _) ?_)
      | ((with_reducible show wpList _ _ _ _ _ _); refine arm_load rfl (.tmp 6) 40 rfl rfl (HLR.out _) ?_)
      | ((with_reducible show wpList _ _ _ _ _ _); refine arm_load rfl (.tmp 7) 31 rfl rfl (HLD.out _) ?_)
    refine Calls.mono (Hi.calls (h4 _)) ?_
    rintro e4 w5 ⟨rfl, x5, rfl⟩
    go_wp2_with first
      | ((with_reducible show wpList _ _ _ _ _ _); refine arm_load rfl (.tmp 4) 40 rfl rfl (HLP.out _) ?_)
      | ((with_reducible show wpList _ _ _ _ _ _); refine arm_load rfl (.tmp 5) 40 rfl rfl (HLQ.out _) ?_)
      | ((with_reducible show wpList _ _ _ _ _ _); refine arm_load rfl (.tmp 6) 40 rfl rfl (HLR.out _) ?_)
      | ((with_reducible show wpList _ _ _ _ _ _); refine arm_load rfl (.tmp 7) 31 rfl rfl (HLD.out _) ?_)
    refine Calls.mono (Hi.calls (G1.out _)) ?_
    rintro e5 w6 ⟨rfl, x6, rfl⟩
    go_wp2
    go_ret
    exact ⟨rfl, hbl.trans (x6.below.mono hbl.size)⟩
  · have H6 : Hid _ := h6
    have b0 := four_new w (.cells (cp6 a n).toArray 40) (.cells (cp6 b m).toArray 40) (.cells (cp6 c k).toArray 40) (.cells (u8s d).toArray 31) (Below.refl _ _)
    have hbl := b0.1
    have HLP : Hid _ := (Hi.pfx la b0.2.1).1
    have HLQ : Hid _ := (Hi.pfx lb b0.2.2.1).1
    have HLR : Hid _ := (Hi.pfx lc b0.2.2.2.1).1
    have HLD : Hid _ := Hi.adr ld b0.2.2.2.2
    have HPA : Hid _ := (Hi.pfx la b0.2.1).2.1
    have HQA : Hid _ := (Hi.pfx lb b0.2.2.1).2.1
    clear b0 h6
    go_enter Tryd.func12, Tryd.ntmps12
    go_wp2_with fail
    refine Calls.mono (H6.out _ hbl) ?_
    rintro e0 w1 ⟨rfl, hb⟩
    obtain ⟨x1, rfl⟩ : ∃ x : Hi ((((w.alloc (.cells (cp6 a n).toArray 40)).alloc (.cells (cp6 b m).toArray 40)).alloc (.cells (cp6 c k).toArray 40)).alloc (.cells (u8s d).toArray 31)), w1 = x.W := ⟨⟨w1, hb⟩, rfl⟩
    clear hb H6
    go_wp2_with first
      | ((with_reducible show wpList _ _ _ _ _ _); refine arm_load rfl (.tmp 4) 40 rfl rfl (HLP.out _) ?_)
      | ((with_reducible show wpList _ _ _ _ _ _); refine arm_load rfl (.tmp 5) 40 rfl rfl (HLQ.out _) ?_)
      | ((with_reducible show wpList _ _ _ _ _ _); refine arm_load rfl (.tmp 6) 40 rfl rfl (HLR.out _) ?_)
      | ((with_reducible show wpList _ _ _ _ _ _); refine arm_load rfl (.tmp 7) 31 rfl rfl (HLD.out _) ?_)
    refine Calls.mono (Hi.calls (h1 _)) ?_
    rintro e1 w2 ⟨rfl, x2, rfl⟩
    go_wp2_with first
      | ((with_reducible show wpList _ _ _ _ _ _); refine arm_load rfl (.tmp 4) 40 rfl rfl (HLP.out _) ?_)
      | ((with_reducible show wpList _ _ _ _ _ _); refine arm_load rfl (.tmp 5) 40 rfl rfl (HLQ.out _) ?_)
      | ((with_reducible show wpList _ _ _ _ _ _); refine arm_load rfl (.tmp 6) 40 rfl rfl (HLR.out _) ?_)
      | ((with_reducible show wpList _ _ _ _ _ _); refine arm_load rfl (.tmp 7) 31 rfl rfl (HLD.out _) ?_)
    refine Calls.mono (Hi.calls (h2 _)) ?_
    rintro e2 w3 ⟨rfl, x3, rfl⟩
    go_wp2_with first
      | ((with_reducible show wpList _ _ _ _ _ _); refine arm_load rfl (.tmp 4) 40 rfl rfl (HLP.out _) ?_)
      | ((with_reducible show wpList _ _ _ _ _ _); refine arm_load rfl (.tmp 5) 40 rfl rfl (HLQ.out _) ?_)
      | ((with_reducible show wpList _ _ _ _ _ _); refine arm_load rfl (.tmp 6) 40 rfl rfl (HLR.out _) ?_)
      | ((with_reducible show wpList _ _ _ _ _ _); refine arm_load rfl (.tmp 7) 31 rfl rfl (HLD.out _) ?_)
    refine Calls.mono (Hi.calls (h3 _)) ?_
    rintro e3 w4 ⟨rfl, x4, rfl⟩
    go_wp2_with first
      | ((with_reducible show wpList _ _ _ _ _ _); refine arm_load rfl (.tmp 4) 40 rfl rfl (HLP.out _) ?_)
      | ((with_reducible show wpList _ _ _ _ _ _); refine arm_load rfl (.tmp 5) 40 rfl rfl (HLQ.out _) ?_)
      | ((with_reducible show wpList _ _ _ _ _ _); refine arm_load rfl (.tmp 6) 40 rfl rfl (HLR.out _) ?_)
      | ((with_reducible show wpList _ _ _ _ _ _); refine arm_load rfl (.tmp 7) 31 rfl rfl (HLD.out _) ?_)
    refine Calls.mono (Hi.calls (h4 _)) ?_
    rintro e4 w5 ⟨rfl, x5, rfl⟩
    go_wp2_with first
      | ((with_reducible show wpList _ _ _ _ _ _); refine arm_load rfl (.tmp 4) 40 rfl rfl (HLP.out _) ?_)
      | ((with_reducible show wpList _ _ _ _ _ _); refine arm_load rfl (.tmp 5) 40 rfl rfl (HLQ.out _) ?_)
      | ((with_reducible show wpList _ _ _ _ _ _); refine arm_load rfl (.tmp 6) 40 rfl rfl (HLR.out _) ?_)
      | ((with_reducible show wpList _ _ _ _ _ _); refine arm_load rfl (.tmp 7) 31 rfl rfl (HLD.out _) ?_)
    refine Calls.mono (Hi.calls (G1.out _)) ?_
    rintro e5 w6 ⟨rfl, x6, rfl⟩
    go_wp2
    go_ret
    exact ⟨rfl, hbl.trans (x6.below.mono hbl.size)⟩
  · have H6 : Hid _ := h6
    have b0 := four_new w (.cells (cp6 a n).toArray 40) (.cells (cp6 b m).toArray 40) (.cells (cp6 c k).toArray 40) (.cells (u8s d).toArray 31) (Below.refl _ _)
    have hbl := b0.1
    have HLP : Hid _ := (Hi.pfx la b0.2.1).1
    have HLQ : Hid _ := (Hi.pfx lb b0.2.2.1).1
    have HLR : Hid _ := (Hi.pfx lc b0.2.2.2.1).1
    have HLD : Hid _ := Hi.adr ld b0.2.2.2.2
    have HPA : Hid _ := (Hi.pfx la b0.2.1).2.1
    have HQA : Hid _ := (Hi.pfx lb b0.2.2.1).2.1
    clear b0 h6
    go_enter Tryd.func12, Tryd.ntmps12
    go_wp2_with fail
    refine Calls.mono (H6.out _ hbl) ?_
    rintro e0 w1 ⟨rfl, hb⟩
    obtain ⟨x1, rfl⟩ : ∃ x : Hi ((((w.alloc (.cells (cp6 a n).toArray 40)).alloc (.cells (cp6 b m).toArray 40)).alloc (.cells (cp6 c k).toArray 40)).alloc (.cells (u8s d).toArray 31)), w1 = x.W := ⟨⟨w1, hb⟩, rfl⟩
    clear hb H6
    go_wp2_with first
      | ((with_reducible show wpList _ _ _ _ _ _); refine arm_load rfl (.tmp 4) 40 rfl rfl (HLP.out _) ?_)
      | ((with_reducible show wpList _ _ _ _ _ _); refine arm_load rfl (.tmp 5) 40 rfl rfl (HLQ.out _) ?_)
      | ((with_reducible show wpList _ _ _ _ _ _); refine arm_load rfl (.tmp 6) 40 rfl rfl (HLR.out _) ?_)
      | ((with_reducible show wpList _ _ _ _ _ _); refine arm_load rfl (.tmp 7) 31 rfl rfl (HLD.out _) ?_)
    refine Calls.mono (Hi.calls (h1 _)) ?_
    rintro e1 w2 ⟨rfl, x2, rfl⟩
    go_wp2_with first
      | ((with_reducible show wpList _ _ _ _ _ _); refine arm_load rfl (.tmp 4) 40 rfl rfl (HLP.out _) ?_)
      | ((with_reducible show wpList _ _ _ _ _ _); refine arm_load rfl (.tmp 5) 40 rfl rfl (HLQ.out _) ?_)
      | ((with_reducible show wpList _ _ _ _ _ _); refine arm_load rfl (.tmp 6) 40 rfl rfl (HLR.out _) ?_)
      | ((with_reducible show wpList _ _ _ _ _ _); refine arm_load rfl (.tmp 7) 31 rfl rfl (HLD.out _) ?_)
    refine Calls.mono (Hi.calls (h2 _)) ?_
    rintro e2 w3 ⟨rfl, x3, rfl⟩
    go_wp2_with first
      | ((with_reducible show wpList _ _ _ _ _ _); refine arm_load rfl (.tmp 4) 40 rfl rfl (HLP.out _) ?_)
      | ((with_reducible show wpList _ _ _ _ _ _); refine arm_load rfl (.tmp 5) 40 rfl rfl (HLQ.out _) ?_)
      | ((with_reducible show wpList _ _ _ _ _ _); refine arm_load rfl (.tmp 6) 40 rfl rfl (HLR.out _) ?_)
      | ((with_reducible show wpList _ _ _ _ _ _); refine arm_load rfl (.tmp 7) 31 rfl rfl (HLD.out _) ?_)
    refine Calls.mono (Hi.calls (h3 _)) ?_
    rintro e3 w4 ⟨rfl, x4, rfl⟩
    go_wp2_with first
      | ((with_reducible show wpList _ _ _ _ _ _); refine arm_load rfl (.tmp 4) 40 rfl rfl (HLP.out _) ?_)
      | ((with_reducible show wpList _ _ _ _ _ _); refine arm_load rfl (.tmp 5) 40 rfl rfl (HLQ.out _) ?_)
      | ((with_reducible show wpList _ _ _ _ _ _); refine arm_load rfl (.tmp 6) 40 rfl rfl (HLR.out _) ?_)
      | ((with_reducible show wpList _ _ _ _ _ _); refine arm_load rfl (.tmp 7) 31 rfl rfl (HLD.out _) ?_)
    refine Calls.mono (Hi.calls (h4 _)) ?_
    rintro e4 w5 ⟨rfl, x5, rfl⟩
    go_wp2_with first
      | ((with_reducible show wpList _ _ _ _ _ _); refine arm_load rfl (.tmp 4) 40 rfl rfl (HLP.out _) ?_)
      | ((with_reducible show wpList _ _ _ _ _ _); refine arm_load rfl (.tmp 5) 40 rfl rfl (HLQ.out _) ?_)
      | ((with_reducible show wpList _ _ _ _ _ _); refine arm_load rfl (.tmp 6) 40 rfl rfl (HLR.out _) ?_)
      | ((with_reducible show wpList _ _ _ _ _ _); refine arm_load rfl (.tmp 7) 31 rfl rfl (HLD.out _) ?_)
    refine Calls.mono (Hi.calls (G1.out _)) ?_
    rintro e5 w6 ⟨rfl, x6, rfl⟩
    go_wp2
    go_ret
    exact ⟨rfl, hbl.trans (x6.below.mono hbl.size)⟩
  · have H6 : Hid _ := h6
    have b0 := four_new w (.cells (cp6 a n).toArray 40) (.cells (cp6 b m).toArray 40) (.cells (cp6 c k).toArray 40) (.cells (u8s d).toArray 31) (Below.refl _ _)
    have hbl := b0.1
    have HLP : Hid _ := (Hi.pfx la b0.2.1).1
    have HLQ : Hid _ := (Hi.pfx lb b0.2.2.1).1
    have HLR : Hid _ := (Hi.pfx lc b0.2.2.2.1).1
    have HLD : Hid _ := Hi.adr ld b0.2.2.2.2
    have HPA : Hid _ := (Hi.pfx la b0.2.1).2.1
    have HQA : Hid _ := (Hi.pfx lb b0.2.2.1).2.1
    clear b0 h6
    go_enter Tryd.func12, Tryd.ntmps12
    go_wp2_with fail
    refine Calls.mono (H6.out _ hbl) ?_
    rintro e0 w1 ⟨rfl, hb⟩
    obtain ⟨x1, rfl⟩ : ∃ x : Hi ((((w.alloc (.cells (cp6 a n).toArray 40)).alloc (.cells (cp6 b m).toArray 40)).alloc (.cells (cp6 c k).toArray 40)).alloc (.cells (u8s d).toArray 31)), w1 = x.W := ⟨⟨w1, hb⟩, rfl⟩
    clear hb H6
    go_wp2_with first
      | ((with_reducible show wpList _ _ _ _ _ _); refine arm_load rfl (.tmp 4) 40 rfl rfl (HLP.out _) ?_)
      | ((with_reducible show wpList _ _ _ _ _ _); refine arm_load rfl (.tmp 5) 40 rfl rfl (HLQ.out _) ?_)
      | ((with_reducible show wpList _ _ _ _ _ _); refine arm_load rfl (.tmp 6) 40 rfl rfl (HLR.out _) ?_)
      | ((with_reducible show wpList _ _ _ _ _ _); refine arm_load rfl (.tmp 7) 31 rfl rfl (HLD.out _) ?_)
    refine Calls.mono (Hi.calls (h1 _)) ?_
    rintro e1 w2 ⟨rfl, x2, rfl⟩
    go_wp2_with first
      | ((with_reducible show wpList _ _ _ _ _ _); refine arm_load rfl (.tmp 4) 40 rfl rfl (HLP.out _) ?_)
      | ((with_reducible show wpList _ _ _ _ _ _); refine arm_load rfl (.tmp 5) 40 rfl rfl (HLQ.out _) ?_)
      | ((with_reducible show wpList _ _ _ _ _ _); refine arm_load rfl (.tmp 6) 40 rfl rfl (HLR.out _) ?_)
      | ((with_reducible show wpList _ _ _ _ _ _); refine arm_load rfl (.tmp 7) 31 rfl rfl (HLD.out _) ?_)
    refine Calls.mono (Hi.calls (h2 _)) ?_
    rintro e2 w3 ⟨rfl, x3, rfl⟩
    go_wp2_with first
      | ((with_reducible show wpList _ _ _ _ _ _); refine arm_load rfl (.tmp 4) 40 rfl rfl (HLP.out _) ?_)
      | ((with_reducible show wpList _ _ _ _ _ _); refine arm_load rfl (.tmp 5) 40 rfl rfl (HLQ.out _) ?_)
      | ((with_reducible show wpList _ _ _ _ _ _); refine arm_load rfl (.tmp 6) 40 rfl rfl (HLR.out _) ?_)
      | ((with_reducible show wpList _ _ _ _ _ _); refine arm_load rfl (.tmp 7) 31 rfl rfl (HLD.out _) ?_)
    refine Calls.mono (Hi.calls (h3 _)) ?_
    rintro e3 w4 ⟨rfl, x4, rfl⟩
    go_wp2_with first
      | ((with_reducible show wpList _ _ _ _ _ _); refine arm_load rfl (.tmp 4) 40 rfl rfl (HLP.out _) ?_)
      | ((with_reducible show wpList _ _ _ _ _ _); refine arm_load rfl (.tmp 5) 40 rfl rfl (HLQ.out _) ?_)
      | ((with_reducible show wpList _ _ _ _ _ _); refine arm_load rfl (.tmp 6) 40 rfl rfl (HLR.out _) ?_)
      | ((with_reducible show wpList _ _ _ _ _ _); refine arm_load rfl (.tmp 7) 31 rfl rfl (HLD.out _) ?_)
    refine Calls.mono (Hi.calls (h4 _)) ?_
    rintro e4 w5 ⟨rfl, x5, rfl⟩
    go_wp2_with first
      | ((with_reducible show wpList _ _ _ _ _ _); refine arm_load rfl (.tmp 4) 40 rfl rfl (HLP.out _) ?_)
      | ((with_reducible show wpList _ _ _ _ _ _); refine arm_load rfl (.tmp 5) 40 rfl rfl (HLQ.out _) ?_)
      | ((with_reducible show wpList _ _ _ _ _ _); refine arm_load rfl (.tmp 6) 40 rfl rfl (HLR.out _) ?_)
      | ((with_reducible show wpList _ _ _ _ _ _); refine arm_load rfl (.tmp 7) 31 rfl rfl (HLD.out _) ?_)
    refine Calls.mono (Hi.calls (G1.out _)) ?_
    rintro e5 w6 ⟨rfl, x6, rfl⟩
    go_wp2_with first
      | ((with_reducible show wpList _ _ _ _ _ _); refine arm_load rfl (.tmp 4) 40 rfl rfl (HLP.out _) ?_)
      | ((with_reducible show wpList _ _ _ _ _ _); refine arm_load rfl (.tmp 5) 40 rfl rfl (HLQ.out _) ?_)
      | ((with_reducible show wpList _ _ _ _ _ _); refine arm_load rfl (.tmp 6) 40 rfl rfl (HLR.out _) ?_)
      | ((with_reducible show wpList _ _ _ _ _ _); refine arm_load rfl (.tmp 7) 31 rfl rfl (HLD.out _) ?_)
    refine Calls.mono (Hi.calls (G2.out _)) ?_
    rintro e6 w7 ⟨rfl, x7, rfl⟩
    go_wp2
    go_ret
    exact ⟨rfl, hbl.trans (x7.below.mono hbl.size)⟩
  · have H6 : Hid _ := h6
    have b0 := four_new w (.cells (cp6 a n).toArray 40) (.cells (cp6 b m).toArray 40) (.cells (cp6 c k).toArray 40) (.cells (u8s d).toArray 31) (Below.refl _ _)
    have hbl := b0.1
    have HLP : Hid _ := (Hi.pfx la b0.2.1).1
    have HLQ : Hid _ := (Hi.pfx lb b0.2.2.1).1
    have HLR : Hid _ := (Hi.pfx lc b0.2.2.2.1).1
    have HLD : Hid _ := Hi.adr ld b0.2.2.2.2
    have HPA : Hid _ := (Hi.pfx la b0.2.1).2.1
    have HQA : Hid _ := (Hi.pfx lb b0.2.2.1).2.1
    clear b0 h6
    go_enter Tryd.func12, Tryd.ntmps12
    go_wp2_with fail
    refine Calls.mono (H6.out _ hbl) ?_
    rintro e0 w1 ⟨rfl, hb⟩
    obtain ⟨x1, rfl⟩ : ∃ x : Hi ((((w.alloc (.cells (cp6 a n).toArray 40)).alloc (.cells (cp6 b m).toArray 40)).alloc (.cells (cp6 c k).toArray 40)).alloc (.cells (u8s d).toArray 31)), w1 = x.W := ⟨⟨w1, hb⟩, rfl⟩
    clear hb H6
    go_wp2_with first
      | ((with_reducible show wpList _ _ _ _ _ _); refine arm_load rfl (.tmp 4) 40 rfl rfl (HLP.out _) ?_)
      | ((with_reducible show wpList _ _ _ _ _ _); refine arm_load rfl (.tmp 5) 40 rfl rfl (HLQ.out _) ?_)
      | ((with_reducible show wpList _ _ _ _ _ _); refine arm_load rfl (.tmp 6) 40 rfl rfl (HLR.out _) ?_)
      | ((with_reducible show wpList _ _ _ _ _ _); refine arm_load rfl (.tmp 7) 31 rfl rfl (HLD.out _) ?_)
    refine Calls.mono (Hi.calls (h1 _)) ?_
    rintro e1 w2 ⟨rfl, x2, rfl⟩
    go_wp2_with first
      | ((with_reducible show wpList _ _ _ _ _ _); refine arm_load rfl (.tmp 4) 40 rfl rfl (HLP.out _) ?_)
      | ((with_reducible show wpList _ _ _ _ _ _); refine arm_load rfl (.tmp 5) 40 rfl rfl (HLQ.out _) ?_)
      | ((with_reducible show wpList _ _ _ _ _ _); refine arm_load rfl (.tmp 6) 40 rfl rfl (HLR.out _) ?_)
      | ((with_reducible show wpList _ _ _ _ _ _); refine arm_load rfl (.tmp 7) 31 rfl rfl (HLD.out _) ?_)
    refine Calls.mono (Hi.calls (h2 _)) ?_
    rintro e2 w3 ⟨rfl, x3, rfl⟩
    go_wp2_with first
      | ((with_reducible show wpList _ _ _ _ _ _); refine arm_load rfl (.tmp 4) 40 rfl rfl (HLP.out _) ?_)
      | ((with_reducible show wpList _ _ _ _ _ _); refine arm_load rfl (.tmp 5) 40 rfl rfl (HLQ.out _) ?_)
      | ((with_reducible show wpList _ _ _ _ _ _); refine arm_load rfl (.tmp 6) 40 rfl rfl (HLR.out _) ?_)
      | ((with_reducible show wpList _ _ _ _ _ _); refine arm_load rfl (.tmp 7) 31 rfl rfl (HLD.out _) ?_)
    refine Calls.mono (Hi.calls (h3 _)) ?_
    rintro e3 w4 ⟨rfl, x4, rfl⟩
    go_wp2_with first
      | ((with_reducible show wpList _ _ _ _ _ _); refine arm_load rfl (.tmp 4) 40 rfl rfl (HLP.out _) ?_)
      | ((with_reducible show wpList _ _ _ _ _ _); refine arm_load rfl (.tmp 5) 40 rfl rfl (HLQ.out _) ?_)
      | ((with_reducible show wpList _ _ _ _ _ _); refine arm_load rfl (.tmp 6) 40 rfl rfl (HLR.out _) ?_)
      | ((with_reducible show wpList _ _ _ _ _ _); refine arm_load rfl (.tmp 7) 31 rfl rfl (HLD.out _) ?_)
    refine Calls.mono (Hi.calls (h4 _)) ?_
    rintro e4 w5 ⟨rfl, x5, rfl⟩
    go_wp2_with first
      | ((with_reducible show wpList _ _ _ _ _ _); refine arm_load rfl (.tmp 4) 40 rfl rfl (HLP.out _) ?_)
      | ((with_reducible show wpList _ _ _ _ _ _); refine arm_load rfl (.tmp 5) 40 rfl rfl (HLQ.out _) ?_)
      | ((with_reducible show wpList _ _ _ _ _ _); refine arm_load rfl (.tmp 6) 40 rfl rfl (HLR.out _) ?_)
      | ((with_reducible show wpList _ _ _ _ _ _); refine arm_load rfl (.tmp 7) 31 rfl rfl (HLD.out _) ?_)
    refine Calls.mono (Hi.calls (G1.out _)) ?_
    rintro e5 w6 ⟨rfl, x6, rfl⟩
    go_wp2_with first
      | ((with_reducible show wpList _ _ _ _ _ _); refine arm_load rfl (.tmp 4) 40 rfl rfl (HLP.out _) ?_)
      | ((with_reducible show wpList _ _ _ _ _ _); refine arm_load rfl (.tmp 5) 40 rfl rfl (HLQ.out _) ?_)
      | ((with_reducible show wpList _ _ _ _ _ _); refine arm_load rfl (.tmp 6) 40 rfl rfl (HLR.out _) ?_)
      | ((with_reducible show wpList _ _ _ _ _ _); refine arm_load rfl (.tmp 7) 31 rfl rfl (HLD.out _) ?_)
    refine Calls.mono (Hi.calls (G2.out _)) ?_
    rintro e6 w7 ⟨rfl, x7, rfl⟩
    go_wp2
    go_ret
    exact ⟨rfl, hbl.trans (x7.below.mono hbl.size)⟩
  · have H6 : Hid _ := h6
    have b0 := four_new w (.cells (cp6 a n).toArray 40) (.cells (cp6 b m).toArray 40) (.cells (cp6 c k).toArray 40) (.cells (u8s d).toArray 31) (Below.refl _ _)
    have hbl := b0.1
    have HLP : Hid _ := (Hi.pfx la b0.2.1).1
    have HLQ : Hid _ := (Hi.pfx lb b0.2.2.1).1
    have HLR : Hid _ := (Hi.pfx lc b0.2.2.2.1).1
    have HLD : Hid _ := Hi.adr ld b0.2.2.2.2
    have HPA : Hid _ := (Hi.pfx la b0.2.1).2.1
    have HQA : Hid _ := (Hi.pfx lb b0.2.2.1).2.1
    clear b0 h6
    go_enter Tryd.func12, Tryd.ntmps12
    go_wp2_with fail
    refine Calls.mono (H6.out _ hbl) ?_
    rintro e0 w1 ⟨rfl, hb⟩
    obtain ⟨x1, rfl⟩ : ∃ x : Hi ((((w.alloc (.cells (cp6 a n).toArray 40)).alloc (.cells (cp6 b m).toArray 40)).alloc (.cells (cp6 c k).toArray 40)).alloc (.cells (u8s d).toArray 31)), w1 = x.W := ⟨⟨w1, hb⟩, rfl⟩
    clear hb H6
    go_wp2_with first
      | ((with_reducible show wpList _ _ _ _ _ _); refine arm_load rfl (.tmp 4) 40 rfl rfl (HLP.out _) ?_)
      | ((with_reducible show wpList _ _ _ _ _ _); refine arm_load rfl (.tmp 5) 40 rfl rfl (HLQ.out _) ?_)
      | ((with_reducible show wpList _ _ _ _ _ _); refine arm_load rfl (.tmp 6) 40 rfl rfl (HLR.out _) ?_)
      | ((with_reducible show wpList _ _ _ _ _ _); refine arm_load rfl (.tmp 7) 31 rfl rfl (HLD.out _) ?_)
    refine Calls.mono (Hi.calls (h1 _)) ?_
    rintro e1 w2 ⟨rfl, x2, rfl⟩
    go_wp2_with first
      | ((with_reducible show wpList _ _ _ _ _ _); refine arm_load rfl (.tmp 4) 40 rfl rfl (HLP.out _) ?_)
      | ((with_reducible show wpList _ _ _ _ _ _); refine arm_load rfl (.tmp 5) 40 rfl rfl (HLQ.out _) ?_)
      | ((with_reducible show wpList _ _ _ _ _ _); refine arm_load rfl (.tmp 6) 40 rfl rfl (HLR.out _) ?_)
      | ((with_reducible show wpList _ _ _ _ _ _); refine arm_load rfl (.tmp 7) 31 rfl rfl (HLD.out _) ?_)
    refine Calls.mono (Hi.calls (h2 _)) ?_
    rintro e2 w3 ⟨rfl, x3, rfl⟩
    go_wp2_with first
      | ((with_reducible show wpList _ _ _ _ _ _); refine arm_load rfl (.tmp 4) 40 rfl rfl (HLP.out _) ?_)
      | ((with_reducible show wpList _ _ _ _ _ _); refine arm_load rfl (.tmp 5) 40 rfl rfl (HLQ.out _) ?_)
      | ((with_reducible show wpList _ _ _ _ _ _); refine arm_load rfl (.tmp 6) 40 rfl rfl (HLR.out _) ?_)
      | ((with_reducible show wpList _ _ _ _ _ _); refine arm_load rfl (.tmp 7) 31 rfl rfl (HLD.out _) ?_)
    refine Calls.mono (Hi.calls (h3 _)) ?_
    rintro e3 w4 ⟨rfl, x4, rfl⟩
    go_wp2_with first
      | ((with_reducible show wpList _ _ _ _ _ _); refine arm_load rfl (.tmp 4) 40 rfl rfl (HLP.out _) ?_)
      | ((with_reducible show wpList _ _ _ _ _ _); refine arm_load rfl (.tmp 5) 40 rfl rfl (HLQ.out _) ?_)
      | ((with_reducible show wpList _ _ _ _ _ _); refine arm_load rfl (.tmp 6) 40 rfl rfl (HLR.out _) ?_)
      | ((with_reducible show wpList _ _ _ _ _ _); refine arm_load rfl (.tmp 7) 31 rfl rfl (HLD.out _) ?_)
    refine Calls.mono (Hi.calls (h4 _)) ?_
    rintro e4 w5 ⟨rfl, x5, rfl⟩
    go_wp2_with first
      | ((with_reducible show wpList _ _ _ _ _ _); refine arm_load rfl (.tmp 4) 40 rfl rfl (HLP.out _) ?_)
      | ((with_reducible show wpList _ _ _ _ _ _); refine arm_load rfl (.tmp 5) 40 rfl rfl (HLQ.out _) ?_)
      | ((with_reducible show wpList _ _ _ _ _ _); refine arm_load rfl (.tmp 6) 40 rfl rfl (HLR.out _) ?_)
      | ((with_reducible show wpList _ _ _ _ _ _); refine arm_load rfl (.tmp 7) 31 rfl rfl (HLD.out _) ?_)
    refine Calls.mono (Hi.calls (G1.out _)) ?_
    rintro e5 w6 ⟨rfl, x6, rfl⟩
    go_wp2_with first
      | ((with_reducible show wpList _ _ _ _ _ _); refine arm_load rfl (.tmp 4) 40 rfl rfl (HLP.out _) ?_)
      | ((with_reducible show wpList _ _ _ _ _ _); refine arm_load rfl (.tmp 5) 40 rfl rfl (HLQ.out _) ?_)
      | ((with_reducible show wpList _ _ _ _ _ _); refine arm_load rfl (.tmp 6) 40 rfl rfl (HLR.out _) ?_)
      | ((with_reducible show wpList _ _ _ _ _ _); refine arm_load rfl (.tmp 7) 31 rfl rfl (HLD.out _) ?_)
    refine Calls.mono (Hi.calls (G2.out _)) ?_
    rintro e6 w7 ⟨rfl, x7, rfl⟩
    go_wp2_with first
      | ((with_reducible show wpList _ _ _ _ _ _); refine arm_load rfl (.tmp 4) 40 rfl rfl (HLP.out _) ?_)
      | ((with_reducible show wpList _ _ _ _ _ _); refine arm_load rfl (.tmp 5) 40 rfl rfl (HLQ.out _) ?_)
      | ((with_reducible show wpList _ _ _ _ _ _); refine arm_load rfl (.tmp 6) 40 rfl rfl (HLR.out _) ?_)
      | ((with_reducible show wpList _ _ _ _ _ _); refine arm_load rfl (.tmp 7) 31 rfl rfl (HLD.out _) ?_)
    refine Calls.mono (Hi.calls (G3.out _)) ?_
    rintro e7 w8 ⟨rfl, x8, rfl⟩
    go_wp2
    go_ret
    exact ⟨rfl, hbl.trans (x8.below.mono hbl.size)⟩
  · exact absurd hbad (by decide)

end Go.Proofs.YthejkiocndoflaaDoor
