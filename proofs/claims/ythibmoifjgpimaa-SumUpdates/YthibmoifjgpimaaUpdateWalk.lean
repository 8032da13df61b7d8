/-
  The walk of the statement SumUpdates: any checksum behind any change, which checksums say the same, and which word makes up for a change, as the document has it.
-/
import Derived.Test.YthibmoifjgpimaaRef2
namespace Go.Proofs.Ythibmoifjgpimaa
open Go Go.RowKit Go.Shelf

/-- Both calls hand back the same two numbers, in every later world. -/
def BothGive (f g : FuncId) (args : Array Value) (w : World) (u er : Int) : Prop :=
  ∀ W, Below w.heap.size w W → (Calls Try.prog f args W fun e w' => e = .returned (.tuple #[.int .u16 u, .int .i64 er]) ∧ Below W.heap.size W w') ∧ (Calls Try.prog g args W fun e w' => e = .returned (.tuple #[.int .u16 u, .int .i64 er]) ∧ Below W.heap.size W w')

theorem update_both (was : Int) (hwas : 0 ≤ was ∧ was ≤ 65535) (a a' : Option Addr) (cap cap' : Nat) (zs ys : List Int) (w : World) (hz : BytesAt w.heap.size w (.slice a zs.length cap) zs) (hy : BytesAt w.heap.size w (.slice a' ys.length cap') ys) (hs : zs.length ≤ 3000) :
    ∃ u er, BothGive 20 21 #[.int .u16 was, .slice a zs.length cap, .slice a' ys.length cap'] w u er := by
  by_cases h : zs.length = ys.length ∧ zs.length % 2 = 0
  · have hy' := hy
    rw [← h.1] at hy'
    rw [← h.1]
    exact ⟨_, _, fun W hW => ⟨update_some was hwas a a' _ cap cap' zs ys W (hz.later hW) (hy'.later hW) h.2, update_ref was hwas a a' _ cap cap' zs ys W (hz.later hW) (hy'.later hW) h.2 hs⟩⟩
  · exact ⟨0, 10, fun W hW => ⟨(update_none was a a' _ _ cap cap' W hz.len hy.len h).mono (fun _ _ hr => ⟨hr.1, by rw [hr.2]; exact Below.refl _ _⟩), (update_ref_no was a a' _ _ cap cap' W hz.len hy.len h).mono (fun _ _ hr => ⟨hr.1, by rw [hr.2]; exact Below.refl _ _⟩)⟩⟩

theorem neutral_both (a a' : Option Addr) (cap cap' : Nat) (zs ys : List Int) (w : World) (hz : BytesAt w.heap.size w (.slice a zs.length cap) zs) (hy : BytesAt w.heap.size w (.slice a' ys.length cap') ys) (hs : zs.length ≤ 3000) :
    ∃ u er, BothGive 22 23 #[.slice a zs.length cap, .slice a' ys.length cap'] w u er := by
  by_cases h : zs.length = ys.length ∧ zs.length % 2 = 0
  · have hy' := hy
    rw [← h.1] at hy'
    rw [← h.1]
    exact ⟨_, _, fun W hW => ⟨neutral_some a a' _ cap cap' zs ys W (hz.later hW) (hy'.later hW) h.2, neutral_ref a a' _ cap cap' zs ys W (hz.later hW) (hy'.later hW) h.2 hs⟩⟩
  · exact ⟨0, 10, fun W hW => ⟨(neutral_none a a' _ _ cap cap' W hz.len hy.len h).mono (fun _ _ hr => ⟨hr.1, by rw [hr.2]; exact Below.refl _ _⟩), (neutral_ref_no a a' _ _ cap cap' W hz.len hy.len h).mono (fun _ _ hr => ⟨hr.1, by rw [hr.2]; exact Below.refl _ _⟩)⟩⟩

set_option maxHeartbeats 2000000 in
theorem sumUpdates_walk (was : Int) (a1 : Option Addr) (len1 cap1 : Nat) (z1 : List Int) (a2 : Option Addr) (len2 cap2 : Nat) (z2 : List Int) (other : Int) (w : World) (w0 : (Lit.int .u16 was).wf = true) (w1 : IsRowB w a1 len1 cap1 z1) (w2 : IsRowB w a2 len2 cap2 z2) (w3 : (Lit.int .u16 other).wf = true) :
    Calls Try.prog 5 #[.int .u16 was, .slice a1 len1 cap1, .slice a2 len2 cap2, .int .u16 other] w fun e w' => e = .returned (.bool true) ∧ Below w.heap.size w w' := by
  obtain ⟨p1, p2, p3⟩ := w1.bounds
  obtain ⟨q1, q2, q3⟩ := w2.bounds
  have ha := bounds_u16 w0
  have hb := bounds_u16 w3
  have hb1 := w1.bytes (min len1 3000) (by omega) (by omega)
  have hb2 := w2.bytes (min len2 3000) (by omega) (by omega)
  have hn1 : min len1 3000 ≤ 3000 := by omega
  clear w0 w3
  generalize z1.take (min len1 3000) = x1 at *
  generalize z2.take (min len2 3000) = x2 at *
  go_enter Try.func5, Try.ntmps5
  go_wp2_with fail
  refine (cut_calls a1 len1 cap1 _ p1 p2 p3).mono ?_
  rintro e w' ⟨rfl, rfl⟩
  go_wp2_with fail
  refine (cut_calls a2 len2 cap2 _ q1 q2 q3).mono ?_
  rintro e w ⟨rfl, rfl⟩
  generalize min len1 3000 = n1 at *
  generalize min len2 3000 = n2 at *
  clear w1 w2 p1 p2 p3 q1 q2 q3 z1 z2
  obtain rfl : n1 = x1.length := by obtain ⟨_, _, e, _⟩ := hb1.val; cases e; rfl
  obtain rfl : n2 = x2.length := by obtain ⟨_, _, e, _⟩ := hb2.val; cases e; rfl
  obtain ⟨u, er, hU⟩ := update_both was ha a1 a2 cap1 cap2 x1 x2 w hb1 hb2 hn1
  obtain ⟨v, er', hN⟩ := neutral_both a1 a2 cap1 cap2 x1 x2 w hb1 hb2 hn1
  have hal := alike_calls was other ha hb
  have har := alike_ref was other ha hb
  generalize alikeB was other = r at *
  have HA : Hid _ := hal
  have HR : Hid _ := har
  clear hal har hb1 hb2
  go_wp2_with fail
  refine (hU w (Below.refl _ _)).1.mono ?_
  rintro e W1 ⟨rfl, hB1⟩
  go_wp2_with fail
  refine (hU W1 hB1).2.mono ?_
  rintro e W2 ⟨rfl, hB2⟩
  have hB12 := hB1.trans (hB2.mono hB1.size)
  clear hB1 hB2
  go_wp2_with fail
  refine (hN W2 hB12).1.mono ?_
  rintro e W3 ⟨rfl, hB3⟩
  have hB13 := hB12.trans (hB3.mono hB12.size)
  clear hB12 hB3
  go_wp2_with fail
  refine (hN W3 hB13).2.mono ?_
  rintro e W4 ⟨rfl, hB4⟩
  have hB := hB13.trans (hB4.mono hB13.size)
  clear hB13 hB4 hU hN
  go_wp2_with fail
  refine Calls.mono (HA.out W4) ?_
  rintro e W5 ⟨rfl, rfl⟩
  go_wp2_with fail
  refine Calls.mono (HR.out W5) ?_
  rintro e W6 ⟨rfl, rfl⟩
  cases r
  all_goals
    go_wp2_with fail
    refine (alive_calls _).mono ?_
    rintro e W7 ⟨rfl, hB7⟩
    go_wp2
    go_ret
    exact ⟨rfl, hB.trans (hB7.mono hB.size)⟩

end Go.Proofs.Ythibmoifjgpimaa
