/-
  Worlds above one: all blocks of that one are as they were. A region that draws its order, whose operations read old blocks and whose calls leave a world above, is walked once.
  Addresses and prefixes that came in, as numbers.
  IPv4 prefixes: the program's Has4, and that both sides say the same of what a prefix has and covers.
  Prefixes as sets: two of them meet just when one covers the other; to cover is a partial order.
-/
import Derived.Test.YtaebknkjhhcneaaGreatDoorProg
import Derived.WalkKit
import Derived.Below
import Derived.BigQuiet
import Derived.Test.YtaebknkjhhcneaaGreatDoorFold06
import Derived.OpenShut
import Derived.ChangeArms
import Derived.ChangeSame
import Derived.ProofKit
import Derived.Test.YtaebknkjhhcneaaGreatDoorAddrCov
namespace Go.Proofs.YtaebknkjhhcneaaGreatDoor
open Go Go.RowKit
set_option linter.unusedVariables false

theorem cell4_of {W : World} {b : Nat} {v0 v1 v2 v3 : Value} {t : TypeId} (h : W.heap[b]? = some (.cells #[v0, v1, v2, v3] t)) :
    W.cell? ⟨b, 0, none⟩ = some v0 ∧ W.cell? ⟨b, 1, none⟩ = some v1 ∧ W.cell? ⟨b, 2, none⟩ = some v2 ∧ W.cell? ⟨b, 3, none⟩ = some v3 := by simp [World.cell?, h]
theorem cell5_of {W : World} {b : Nat} {v0 v1 v2 v3 v4 : Value} {t : TypeId} (h : W.heap[b]? = some (.cells #[v0, v1, v2, v3, v4] t)) :
    W.cell? ⟨b, 0, none⟩ = some v0 ∧ W.cell? ⟨b, 1, none⟩ = some v1 ∧ W.cell? ⟨b, 2, none⟩ = some v2 ∧ W.cell? ⟨b, 3, none⟩ = some v3 ∧ W.cell? ⟨b, 4, none⟩ = some v4 := by simp [World.cell?, h]
theorem blk_on {w W : World} {b : Nat} {o : Obj} (h : w.heap[b]? = some o) (hb : Below w.heap.size w W) : W.heap[b]? = some o :=
  (hb.block b (Array.getElem?_eq_some_iff.1 h).1).trans h
theorem blk_new (w : World) (o : Obj) : (w.alloc o).heap[w.heap.size]? = some o := by
  rw [← World.alloc_eq]
  simp
theorem blk_alloc {w : World} {b : Nat} {o : Obj} (h : w.heap[b]? = some o) (o' : Obj) : (w.alloc o').heap[b]? = some o :=
  blk_on h ((Below.refl _ w).alloc (Nat.le_refl _) o')

structure Hi (w : World) where
  W : World
  below : Below w.heap.size w W

def Hi.refl (w : World) : Hi w := ⟨w, Below.refl _ w⟩
instance (w : World) : Nonempty (Hi w) := ⟨Hi.refl w⟩
def Hi.more {w : World} (x : Hi w) {W : World} (h : Below x.W.heap.size x.W W) : Hi w := ⟨W, x.below.trans (h.mono x.below.size)⟩
def Hi.up {w : World} (x : Hi w) (y : Hi x.W) : Hi w := x.more y.below
theorem Hi.blk {w : World} {b : Nat} {o : Obj} (h : w.heap[b]? = some o) (x : Hi w) : x.W.heap[b]? = some o :=
  (x.below.block b (Array.getElem?_eq_some_iff.1 h).1).trans h

theorem Hi.calls {P : Program} {f : FuncId} {args : Array Value} {w : World} {x : Hi w} {v : Value} (h : Calls P f args x.W fun e w' => e = .returned v ∧ Below x.W.heap.size x.W w') :
    Calls P f args x.W fun e w'' => e = .returned v ∧ ∃ y : Hi w, w'' = y.W :=
  h.mono fun _ w' ⟨he, hb⟩ => ⟨he, x.more hb, rfl⟩

theorem wp_region_hi {P : Program} {id : Nat} {Q : Exit → Act → World → Prop} {a : Act} {w : World} {l : List Oper} (hm : P.follows .mixedOrders = true) (hB : Region.lexB .any l.toArray = true)
    (h : wpQuiet P l.toArray (fun w' => ∃ x : Hi w, w' = x.W) (fun a' => ∀ w', (∃ x : Hi w, w' = x.W) → Q .normal a' w') l a) : (Code.region id l.toArray true).wp P Q a w :=
  wp_region_quiet (C := fun w' => ∃ x : Hi w, w' = x.W) hm hB ⟨⟨{ w with drawn := w.drawn + 1 }, (Below.refl _ w).drew⟩, rfl⟩ (by simpa using h)

theorem wp_region_up {P : Program} {id : Nat} {Q : Exit → Act → World → Prop} {a : Act} {w : World} {x : Hi w} {l : List Oper} (hm : P.follows .mixedOrders = true) (hB : Region.lexB .any l.toArray = true)
    (h : wpQuiet P l.toArray (fun w' => ∃ x : Hi w, w' = x.W) (fun a' => ∀ w', (∃ x : Hi w, w' = x.W) → Q .normal a' w') l a) : (Code.region id l.toArray true).wp P Q a x.W :=
  wp_region_quiet (C := fun w' => ∃ x : Hi w, w' = x.W) hm hB ⟨⟨{ x.W with drawn := x.W.drawn + 1 }, x.below.drew⟩, rfl⟩ (by simpa using h)

theorem Hi.cell4 {w : World} {b : Nat} {v0 v1 v2 v3 : Value} {t : TypeId} (h : w.heap[b]? = some (.cells #[v0, v1, v2, v3] t)) :
    (∀ x : Hi w, x.W.cell? ⟨b, 0, none⟩ = some v0) ∧ (∀ x : Hi w, x.W.cell? ⟨b, 1, none⟩ = some v1) ∧ (∀ x : Hi w, x.W.cell? ⟨b, 2, none⟩ = some v2) ∧ (∀ x : Hi w, x.W.cell? ⟨b, 3, none⟩ = some v3) :=
  ⟨fun x => by simp [World.cell?, Hi.blk h x], fun x => by simp [World.cell?, Hi.blk h x], fun x => by simp [World.cell?, Hi.blk h x], fun x => by simp [World.cell?, Hi.blk h x]⟩
theorem Hi.cell5 {w : World} {b : Nat} {v0 v1 v2 v3 v4 : Value} {t : TypeId} (h : w.heap[b]? = some (.cells #[v0, v1, v2, v3, v4] t)) :
    (∀ x : Hi w, x.W.cell? ⟨b, 0, none⟩ = some v0) ∧ (∀ x : Hi w, x.W.cell? ⟨b, 1, none⟩ = some v1) ∧ (∀ x : Hi w, x.W.cell? ⟨b, 2, none⟩ = some v2) ∧ (∀ x : Hi w, x.W.cell? ⟨b, 3, none⟩ = some v3) ∧ (∀ x : Hi w, x.W.cell? ⟨b, 4, none⟩ = some v4) :=
  ⟨fun x => by simp [World.cell?, Hi.blk h x], fun x => by simp [World.cell?, Hi.blk h x], fun x => by simp [World.cell?, Hi.blk h x], fun x => by simp [World.cell?, Hi.blk h x], fun x => by simp [World.cell?, Hi.blk h x]⟩

end Go.Proofs.YtaebknkjhhcneaaGreatDoor

namespace Go.Proofs.YtaebknkjhhcneaaGreatDoor
open Go Go.RowKit
set_option linter.unusedVariables false
set_option linter.unusedSimpArgs false

theorem cells_arr {H : Type} {enc : TypeId × Value → H} {w : World} {base : Nat} {spare : Nat → Bool} {held : Bool} {fuel : Nat} {t : TypeId} {cs : List Value} {x : DataW H × List MemPlace} {n : Nat}
    (ht : Tryz.prog.underlying t = some (.array n 5)) (ct : Tryz.prog.cellsOf t = n) (ce : Tryz.prog.cellsOf 5 = 1) (h : DataW.trod enc Tryz.prog w base spare held fuel t cs = some x) :
    ∃ zs : List Int, zs.length = n ∧ cs = zs.map (fun z => Value.int .u8 z) ∧ FitB zs := by
  obtain ⟨xs, m, _, _, hl, hx, hi⟩ := DataW.trod_array ht h
  rw [ct] at hl
  have each : ∀ i, i < n → ∃ z : Int, cs[i]? = some (.int .u8 z) ∧ 0 ≤ z ∧ z < 256 := by
    intro i hin
    have h1 := hi i hin
    rw [ce, Nat.mul_one, List.getElem?_eq_getElem (by omega)] at h1
    obtain ⟨z, e, _, wf⟩ := DataW.trod_int Tryz.underlying5 h1
    have hb := bounds_u8 wf
    refine ⟨z, ?_, by omega, by omega⟩
    have e2 := congrArg (fun l : List Value => l[0]?) e
    simpa [List.getElem?_take, List.getElem?_drop] using e2
  refine ⟨cs.map intOf, by simpa using hl, ?_, ?_⟩
  · refine List.ext_getElem? fun i => ?_
    by_cases c : i < n
    · obtain ⟨z, hz, _⟩ := each i c
      simp [hz, intOf]
    · rw [List.getElem?_eq_none (by omega), List.getElem?_eq_none (by simp; omega)]
  · intro z hz
    obtain ⟨v, hv, rfl⟩ := List.mem_map.1 hz
    obtain ⟨i, hi', e⟩ := List.getElem_of_mem hv
    obtain ⟨z, hz2, hb⟩ := each i (by omega)
    rw [List.getElem?_eq_getElem hi', e] at hz2
    cases hz2
    exact hb

theorem agg_of {v : Value} {l : List Value} (h : v.cells.toList = l) (hl : 2 ≤ l.length) : v = .agg l.toArray := by
  cases v
  case agg cs => simp only [Value.cells] at h; rw [← h]
  all_goals (simp [Value.cells] at h; subst h; simp at hl)

theorem open_addr4 {H : Type} {enc : TypeId × Value → H} {W : World} {v : Value} {d : DataW H} {p : List MemPlace} (h : DataW.Trod enc Tryz.prog W 0 (fun _ => true) true 61 v d p) :
    ∃ a0 a1 a2 a3, v = A4 a0 a1 a2 a3 ∧ (0 ≤ a0 ∧ a0 < 256) ∧ (0 ≤ a1 ∧ a1 < 256) ∧ (0 ≤ a2 ∧ a2 < 256) ∧ (0 ≤ a3 ∧ a3 < 256) := by
  obtain ⟨fuel, hf⟩ := h
  obtain ⟨zs, hl, hcs, hfit⟩ := cells_arr Tryz.underlying61 (by kernel_rfl) (by kernel_rfl) hf
  have hv := agg_of hcs (by simp; omega)
  obtain ⟨x0, x1, x2, x3, rfl⟩ := list4 hl
  exact ⟨x0, x1, x2, x3, hv, hfit _ (by simp), hfit _ (by simp), hfit _ (by simp), hfit _ (by simp)⟩

set_option maxRecDepth 100000 in
theorem open_prefix4 {H : Type} {enc : TypeId × Value → H} {W : World} {v : Value} {d : DataW H} {p : List MemPlace} (h : DataW.Trod enc Tryz.prog W 0 (fun _ => true) true 63 v d p) :
    ∃ a0 a1 a2 a3 n, v = P4 a0 a1 a2 a3 n ∧ (0 ≤ a0 ∧ a0 < 256) ∧ (0 ≤ a1 ∧ a1 < 256) ∧ (0 ≤ a2 ∧ a2 < 256) ∧ (0 ≤ a3 ∧ a3 < 256) ∧ (Lit.int .i64 n).wf = true := by
  obtain ⟨fuel, hf⟩ := h
  obtain ⟨y0, y1, m, _, hl, h0, h1⟩ := Go.ChangeShapes.trod_struct2 Tryz.underlying63 hf
  have c5 : Tryz.prog.cellsOf 63 = 5 := by kernel_rfl
  rw [c5] at hl
  have h0' : DataW.trod enc Tryz.prog W 0 (fun _ => true) true m 61 ((v.cells.toList.drop 0).take (Tryz.prog.cellsOf 61)) = some y0 := h0
  have h1' : DataW.trod enc Tryz.prog W 0 (fun _ => true) true m 3 ((v.cells.toList.drop 4).take (Tryz.prog.cellsOf 3)) = some y1 := h1
  have c4 : Tryz.prog.cellsOf 61 = 4 := by kernel_rfl
  have c1 : Tryz.prog.cellsOf 3 = 1 := by kernel_rfl
  rw [c4] at h0'
  rw [c1] at h1'
  obtain ⟨zs, hzl, hcs, hfit⟩ := cells_arr Tryz.underlying61 (by kernel_rfl) (by kernel_rfl) h0'
  obtain ⟨n, hn, _, wf⟩ := DataW.trod_int Tryz.underlying3 h1'
  obtain ⟨x0, x1, x2, x3, rfl⟩ := list4 hzl
  have hall : v.cells.toList = [.int .u8 x0, .int .u8 x1, .int .u8 x2, .int .u8 x3, .int .i64 n] := by
    have e : v.cells.toList = v.cells.toList.take 4 ++ (v.cells.toList.drop 4).take 1 := by
      rw [List.take_of_length_le (l := v.cells.toList.drop 4) (by simp at hl ⊢; omega), List.take_append_drop]
    rw [e, hn]
    rw [List.drop_zero] at hcs
    rw [hcs]
    rfl
  have hv := agg_of hall (by simp)
  exact ⟨x0, x1, x2, x3, n, hv, hfit _ (by simp), hfit _ (by simp), hfit _ (by simp), hfit _ (by simp), wf⟩

end Go.Proofs.YtaebknkjhhcneaaGreatDoor

namespace Go.Proofs.YtaebknkjhhcneaaGreatDoor
open Go Go.RowKit
set_option linter.unusedVariables false
set_option linter.unusedSimpArgs false

theorem ok32 {a0 a1 a2 a3 : Int} (h0 : 0 ≤ a0 ∧ a0 < 256) (h1 : 0 ≤ a1 ∧ a1 < 256) (h2 : 0 ≤ a2 ∧ a2 < 256) (h3 : 0 ≤ a3 ∧ a3 < 256) : okP4 a0 a1 a2 a3 32 = true := by
  have h := low_ok (a0 := a0) (a1 := a1) (a2 := a2) (a3 := a3) 32 (Nat.le_refl _) h0 h1 h2 h3
  have hl : lowB [a0, a1, a2, a3] 32 = true := by
    unfold lowB
    exact decide_eq_true (fun i hi hn => by simp at hi; omega)
  rw [hl] at h
  unfold okP4
  rw [decide_eq_true (by omega), Bool.true_and]
  exact h.symm

theorem cov_same (a0 a1 a2 a3 n b0 b1 b2 b3 m : Int) : rcovB a0 a1 a2 a3 n b0 b1 b2 b3 m = covB a0 a1 a2 a3 n b0 b1 b2 b3 m := by
  unfold rcovB covB hasB
  rw [Bool.and_comm]
  congr 1
  rw [decide_eq_decide]
  exact ⟨Eq.symm, Eq.symm⟩
theorem has_same {a0 a1 a2 a3 n b0 b1 b2 b3 : Int} (h0 : 0 ≤ b0 ∧ b0 < 256) (h1 : 0 ≤ b1 ∧ b1 < 256) (h2 : 0 ≤ b2 ∧ b2 < 256) (h3 : 0 ≤ b3 ∧ b3 < 256) :
    (bothOk a0 a1 a2 a3 n b0 b1 b2 b3 32 && covB a0 a1 a2 a3 n b0 b1 b2 b3 32) = (okP4 a0 a1 a2 a3 n && hasB a0 a1 a2 a3 n b0 b1 b2 b3) ∧ bothOk a0 a1 a2 a3 n b0 b1 b2 b3 32 = okP4 a0 a1 a2 a3 n := by
  have e : bothOk a0 a1 a2 a3 n b0 b1 b2 b3 32 = okP4 a0 a1 a2 a3 n := by
    unfold bothOk
    rw [ok32 h0 h1 h2 h3, Bool.and_true]
  refine ⟨?_, e⟩
  rw [e]
  cases hok : okP4 a0 a1 a2 a3 n
  · rfl
  · have hn : 0 ≤ n ∧ n ≤ 32 := by simp [okP4] at hok; exact hok.1
    rw [← cov_same]
    unfold rcovB
    rw [decide_eq_true hn.2, Bool.and_true]

set_option maxHeartbeats 2000000 in
set_option maxRecDepth 100000 in
theorem Has4_calls (a0 a1 a2 a3 n b0 b1 b2 b3 : Int) (w : World) (ha : Fits a0 a1 a2 a3 n) (g0 : 0 ≤ b0 ∧ b0 < 256) (g1 : 0 ≤ b1 ∧ b1 < 256) (g2 : 0 ≤ b2 ∧ b2 < 256) (g3 : 0 ≤ b3 ∧ b3 < 256) :
    Calls Tryz.prog 50 #[P4 a0 a1 a2 a3 n, A4 b0 b1 b2 b3] w fun e w' => e = .returned (.tuple #[.bool (okP4 a0 a1 a2 a3 n && hasB a0 a1 a2 a3 n b0 b1 b2 b3), .int .i64 (if okP4 a0 a1 a2 a3 n then 0 else 22)]) ∧ Below w.heap.size w w' := by
  have hB : Below w.heap.size w ((w.alloc (.cells #[.int .u8 a0, .int .u8 a1, .int .u8 a2, .int .u8 a3, .int .i64 n] 63)).alloc (.cells #[.int .u8 b0, .int .u8 b1, .int .u8 b2, .int .u8 b3] 61)) := ((Below.refl _ w).alloc (Nat.le_refl _) _).alloc (by simp) _
  have hs := @has_same a0 a1 a2 a3 n b0 b1 b2 b3 g0 g1 g2 g3
  have hc : ∀ w : World, Calls Tryz.prog 96 #[P4 a0 a1 a2 a3 n, P4 b0 b1 b2 b3 32] w fun e w' => e = .returned (.tuple #[.bool (okP4 a0 a1 a2 a3 n && hasB a0 a1 a2 a3 n b0 b1 b2 b3), .int .i64 (if okP4 a0 a1 a2 a3 n then 0 else 22)]) ∧ Below w.heap.size w w' := by
    intro w
    have h := Cover4_calls a0 a1 a2 a3 n b0 b1 b2 b3 32 w ha ⟨g0, g1, g2, g3, by omega⟩
    rw [hs.1, hs.2] at h
    exact h
  generalize (okP4 a0 a1 a2 a3 n && hasB a0 a1 a2 a3 n b0 b1 b2 b3) = r1 at *
  generalize (if okP4 a0 a1 a2 a3 n = true then (0 : Int) else 22) = r2 at *
  have HC : Hid _ := hc
  have HB : Hid _ := hB
  clear hc hB hs
  go_enter Tryz.func50, Tryz.ntmps50
  go_wp2_with fail
  refine Calls.mono (HC.out _) ?_
  rintro e w2 ⟨rfl, hB2⟩
  go_wp2
  go_ret2
  exact ⟨rfl, HB.out.trans (hB2.mono HB.out.size)⟩

end Go.Proofs.YtaebknkjhhcneaaGreatDoor

namespace Go.Proofs.YtaebknkjhhcneaaGreatDoor
open Go
set_option linter.unusedVariables false

theorem msk_tab : ∀ r, r < 9 → ∀ s, s < 9 → r ≤ s → (255 - 255 / 2 ^ s) &&& (255 - 255 / 2 ^ r) = 255 - 255 / 2 ^ r := by decide
theorem msk_and {n m : Int} (h : n ≤ m) : msk m &&& msk n = msk n := by
  unfold msk
  exact msk_tab _ (by omega) _ (by omega) (by omega)
theorem bl_low {n m : Int} (h : n ≤ m) (z : Int) : bl (bl z m) n = bl z n := by
  unfold bl
  rw [Int.toNat_natCast, Nat.and_assoc, msk_and h]
theorem bl_high {n m : Int} (h : n ≤ m) (z : Int) : bl (bl z n) m = bl z n := by
  unfold bl
  rw [Int.toNat_natCast, Nat.and_assoc, Nat.and_comm (msk n), msk_and h]

/-- A row of bytes whose bits behind the first n are 0. -/
def blR (n : Int) (l : List Int) : List Int := l.mapIdx (fun i z => bl z (n - 8 * i))
theorem blR_low {n m : Int} (h : n ≤ m) (l : List Int) : blR n (blR m l) = blR n l := by
  unfold blR
  rw [List.mapIdx_mapIdx]
  congr 1
  funext i z
  exact bl_low (by omega) z
theorem blR_high {n m : Int} (h : n ≤ m) (l : List Int) : blR m (blR n l) = blR n l := by
  unfold blR
  rw [List.mapIdx_mapIdx]
  congr 1
  funext i z
  exact bl_high (by omega) z

/-- What is to be shown of three prefixes and an address. -/
structure SetLaws (a b c d : List Int) (n m k : Int) : Prop where
  k1 : decide (blR n d = a) = true → decide (blR m d = b) = true → (decide (n ≤ m) && decide (a = blR n b)) = false → (decide (m ≤ n) && decide (b = blR m a)) = true
  k2 : (decide (n ≤ m) && decide (a = blR n b)) = true → (decide (m ≤ n) && decide (b = blR m a)) = true → b = a ∧ m = n
  k3 : (decide (n ≤ m) && decide (a = blR n b)) = true → (decide (m ≤ k) && decide (b = blR m c)) = true → (decide (n ≤ k) && decide (a = blR n c)) = true
  k4 : ((decide (n ≤ m) && decide (a = blR n b)) || (decide (m ≤ n) && decide (b = blR m a))) = (decide (blR n b = a) || decide (blR m a = b))

theorem setLaws (a b c d : List Int) (n m k : Int) (ha : a = blR n a) (hb : b = blR m b) (hc : c = blR k c) : SetLaws a b c d n m k := by
  refine ⟨?_, ?_, ?_, ?_⟩
  · simp only [decide_eq_true_eq, Bool.and_eq_true, Bool.and_eq_false_iff, decide_eq_false_iff_not]
    intro h1 h2 h3
    rcases h3 with h3 | h3
    · refine ⟨by omega, ?_⟩
      rw [← h1, blR_low (show m ≤ n by omega), h2]
    · by_cases hnm : n ≤ m
      · exact absurd (by rw [← h2, blR_low hnm, h1]) h3
      · refine ⟨by omega, ?_⟩
        rw [← h1, blR_low (show m ≤ n by omega), h2]
  · simp only [decide_eq_true_eq, Bool.and_eq_true]
    rintro ⟨h1, h2⟩ ⟨h3, h4⟩
    obtain rfl : m = n := by omega
    exact ⟨by rw [h2, ← hb], rfl⟩
  · simp only [decide_eq_true_eq, Bool.and_eq_true]
    rintro ⟨h1, h2⟩ ⟨h3, h4⟩
    refine ⟨by omega, ?_⟩
    rw [h2, h4, blR_low h1]
  · rw [Bool.eq_iff_iff]
    simp only [Bool.or_eq_true, Bool.and_eq_true, decide_eq_true_eq]
    constructor
    · rintro (⟨h1, h2⟩ | ⟨h1, h2⟩)
      · exact .inl h2.symm
      · exact .inr h2.symm
    · rintro (h | h)
      · by_cases hnm : n ≤ m
        · exact .inl ⟨hnm, h.symm⟩
        · have hab : a = b := by rw [← h, hb, blR_high (show m ≤ n by omega), ← hb]
          exact .inr ⟨by omega, by rw [hab, ← hb]⟩
      · by_cases hnm : m ≤ n
        · exact .inr ⟨hnm, h.symm⟩
        · have hab : b = a := by rw [← h, ha, blR_high (show n ≤ m by omega), ← ha]
          exact .inl ⟨by omega, by rw [hab, ← ha]⟩

theorem blR4 (b0 b1 b2 b3 n : Int) : blR n [b0, b1, b2, b3] = pL b0 b1 b2 b3 n := by
  simp [blR, pL]

end Go.Proofs.YtaebknkjhhcneaaGreatDoor
