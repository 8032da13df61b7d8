/-
  The walk of the statement SumOwn: what is handed in to package sum is not changed.
-/
import Derived.Test.YthibmoifjgpimabBytes
namespace Go.Proofs.Ythibmoifjgpimab
open Go Go.RowKit Go.Shelf

/-- Whether two rows of bytes may stand in each other's place, as an error number. -/
def erW (n n' : Nat) : Int := if n = n' ∧ n % 2 = 0 then 0 else 10

theorem update_any (was : Int) (hwas : 0 ≤ was ∧ was ≤ 65535) (a a' : Option Addr) (cap cap' : Nat) (zs ys : List Int) (w : World) (hz : BytesAt w.heap.size w (.slice a zs.length cap) zs) (hy : BytesAt w.heap.size w (.slice a' ys.length cap') ys) :
    Calls Try.prog 9 #[.int .u16 was, .slice a zs.length cap, .slice a' ys.length cap'] w fun e w' => ∃ u, e = .returned (.tuple #[.int .u16 u, .int .i64 (erW zs.length ys.length)]) ∧ Below w.heap.size w w' := by
  by_cases h : zs.length = ys.length ∧ zs.length % 2 = 0
  · have hy' := hy
    rw [← h.1] at hy'
    rw [show erW zs.length ys.length = 0 from if_pos h, ← h.1]
    exact (update_some was hwas a a' _ cap cap' zs ys w hz hy' h.2).mono (fun _ _ hr => ⟨_, hr.1, hr.2⟩)
  · rw [show erW zs.length ys.length = 10 from if_neg h]
    exact (update_none was a a' _ _ cap cap' w hz.len hy.len h).mono (fun _ _ hr => ⟨_, hr.1, by rw [hr.2]; exact Below.refl _ _⟩)

theorem neutral_any (a a' : Option Addr) (cap cap' : Nat) (zs ys : List Int) (w : World) (hz : BytesAt w.heap.size w (.slice a zs.length cap) zs) (hy : BytesAt w.heap.size w (.slice a' ys.length cap') ys) :
    Calls Try.prog 10 #[.slice a zs.length cap, .slice a' ys.length cap'] w fun e w' => ∃ u, e = .returned (.tuple #[.int .u16 u, .int .i64 (erW zs.length ys.length)]) ∧ Below w.heap.size w w' := by
  by_cases h : zs.length = ys.length ∧ zs.length % 2 = 0
  · have hy' := hy
    rw [← h.1] at hy'
    rw [show erW zs.length ys.length = 0 from if_pos h, ← h.1]
    exact (neutral_some a a' _ cap cap' zs ys w hz hy' h.2).mono (fun _ _ hr => ⟨_, hr.1, hr.2⟩)
  · rw [show erW zs.length ys.length = 10 from if_neg h]
    exact (neutral_none a a' _ _ cap cap' w hz.len hy.len h).mono (fun _ _ hr => ⟨_, hr.1, by rw [hr.2]; exact Below.refl _ _⟩)

set_option maxHeartbeats 2000000 in
theorem sumOwn_walk (a0 : Option Addr) (len0 cap0 : Nat) (z0 : List Int) (a1 : Option Addr) (len1 cap1 : Nat) (z1 : List Int) (w : World) (w0 : IsRowB w a0 len0 cap0 z0) (w1 : IsRowB w a1 len1 cap1 z1) :
    Calls Try.prog 4 #[.slice a0 len0 cap0, .slice a1 len1 cap1] w fun e w' => e = .returned (.bool true) ∧ Below w.heap.size w w' := by
  obtain ⟨p1, p2, p3⟩ := w0.bounds
  obtain ⟨q1, q2, q3⟩ := w1.bounds
  have hb0 := w0.bytes (min len0 3000) (by omega) (by omega)
  have hb1 := w1.bytes (min len1 3000) (by omega) (by omega)
  have hn0 : min len0 3000 ≤ 3000 := by omega
  have hn1 : min len1 3000 ≤ 3000 := by omega
  generalize z0.take (min len0 3000) = x0 at *
  generalize z1.take (min len1 3000) = x1 at *
  go_enter Try.func4, Try.ntmps4
  go_wp2_with fail
  refine (cut_calls a0 len0 cap0 _ p1 p2 p3).mono ?_
  rintro e w' ⟨rfl, rfl⟩
  go_wp2_with fail
  refine (cut_calls a1 len1 cap1 _ q1 q2 q3).mono ?_
  rintro e w'' ⟨rfl, rfl⟩
  generalize min len0 3000 = n0 at *
  generalize min len1 3000 = n1 at *
  clear w0 w1 p1 p2 p3 q1 q2 q3 z0 z1
  obtain rfl : n0 = x0.length := by obtain ⟨_, _, e, _⟩ := hb0.val; cases e; rfl
  obtain rfl : n1 = x1.length := by obtain ⟨_, _, e, _⟩ := hb1.val; cases e; rfl
  have hB0 : Below w''.heap.size w'' (w''.alloc (.cells #[] 5)) := (Below.refl _ _).alloc (Nat.le_refl _) _
  obtain ⟨c0, k0, W1, hrun0, hby0, hbel0⟩ := (hb0.later hB0).copied w''.heap.size 22
  have hB1 := hB0.trans (hbel0.mono hB0.size)
  have hB2 : Below W1.heap.size W1 (W1.alloc (.cells #[] 5)) := (Below.refl _ _).alloc (Nat.le_refl _) _
  obtain ⟨c1, k1, W2, hrun1, hby1, hbel1⟩ := ((hb1.later hB1).later hB2).copied W1.heap.size 22
  have hB3 := hB2.trans (hbel1.mono hB2.size)
  have hB := hB1.trans (hB3.mono hB1.size)
  have hby0' := hby0.later hB3
  have hb0' := hb0.later hB
  have hb1' := hb1.later hB
  clear hb0 hb1 hby0 hB0 hB1 hB2 hB3 hbel0 hbel1
  have H0 : Hid _ := hrun0
  have H1 : Hid _ := hrun1
  clear hrun0 hrun1
  go_wp2_with (at_builtin; first
    | (refine wpList_append_run rfl _ _ _ _ rfl rfl rfl H0.out ?_; clear H0)
    | (refine wpList_append_run rfl _ _ _ _ rfl rfl rfl H1.out ?_; clear H1))
  refine (update_any 1 (by decide) c0 c1 k0 k1 x0 x1 W2 hby0' hby1).mono ?_
  rintro e W3 ⟨u3, rfl, hB3⟩
  go_wp2_with fail
  refine (of_two _ _ x0 x1 W3 (hby0'.later hB3) (hby1.later hB3)).mono ?_
  rintro e W4 ⟨rfl, hB4⟩
  have hB24 := hB3.trans (hB4.mono hB3.size)
  go_wp2_with fail
  refine (neutral_any c0 c1 k0 k1 x0 x1 W4 (hby0'.later hB24) (hby1.later hB24)).mono ?_
  rintro e W5 ⟨u5, rfl, hB5⟩
  have hB25 := hB24.trans (hB5.mono hB24.size)
  have t0 := (hby0'.later hB25).text
  have t1 := (hby1.later hB25).text
  have t2 := (hb0'.later hB25).text
  have t3 := (hb1'.later hB25).text
  have hBB := hB.trans (hB25.mono hB.size)
  clear hB hB25 hB24 hB3 hB4 hB5 hby0' hby1 hb0' hb1'
  generalize x0.length = n0 at *
  generalize x1.length = n1 at *
  by_cases h1 : n0 = n1
  · subst h1
    by_cases h2 : n0 % 2 = 0
    · have he : erW n0 n0 = 0 := if_pos ⟨rfl, h2⟩
      have hm : ((n0 : Int) % 2 == 0) = true := beq_iff_eq.2 (by omega)
      clear h2
      go_wp2_with fail
      refine (alive_calls _).mono ?_
      rintro e W6 ⟨rfl, hB6⟩
      go_wp2
      go_ret
      exact ⟨rfl, hBB.trans (hB6.mono hBB.size)⟩
    · have he : erW n0 n0 = 10 := if_neg (fun h => h2 h.2)
      have hm : ((n0 : Int) % 2 == 0) = false := beq_eq_false_iff_ne.2 (by omega)
      clear h2
      go_wp2_with fail
      refine (alive_calls _).mono ?_
      rintro e W6 ⟨rfl, hB6⟩
      go_wp2
      go_ret
      exact ⟨rfl, hBB.trans (hB6.mono hBB.size)⟩
  · have he : erW n0 n1 = 10 := if_neg (fun h => h1 h.1)
    have hq : ((n0 : Int) == (n1 : Int)) = false := beq_eq_false_iff_ne.2 (by omega)
    clear h1
    go_wp2_with fail
    refine (alive_calls _).mono ?_
    rintro e W6 ⟨rfl, hB6⟩
    go_wp2
    go_ret
    exact ⟨rfl, hBB.trans (hB6.mono hBB.size)⟩

end Go.Proofs.Ythibmoifjgpimab
