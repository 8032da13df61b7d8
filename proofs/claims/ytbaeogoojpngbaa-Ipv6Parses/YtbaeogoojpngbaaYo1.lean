/-
  Which datagrams are the same: bytes.Equal, sameHead, slices.EqualFunc over heads (package ipv6).
-/
import Derived.Test.YtbaeogoojpngbaaY2
namespace Go.Proofs.Ytbaeogoojpngbaa
open Go Go.RowKit
set_option linter.unusedVariables false
set_option linter.unusedSimpArgs false

def bodyB (a b : List Int) : Bool := (strOfNums a).toList == (strOfNums b).toList
def hdB (hs hs' : Opts) (j : Nat) : Bool := (oK hs j == oK hs' j) && bodyB (oD hs j) (oD hs' j)
def allB (hs hs' : Opts) (k : Nat) : Prop := ∀ j, j < k → hdB hs hs' j = true
def hdsB (hs hs' : Opts) : Bool := decide (hs.length = hs'.length) && (List.range hs.length).all (hdB hs hs')
theorem hdsB_len {hs hs' : Opts} (h : hs.length ≠ hs'.length) : hdsB hs hs' = false := by
  unfold hdsB
  rw [decide_eq_false h]
  rfl
theorem hdsB_all {hs hs' : Opts} (h : hs.length = hs'.length) (ha : allB hs hs' hs.length) : hdsB hs hs' = true := by
  unfold hdsB
  rw [decide_eq_true h, Bool.true_and, List.all_eq_true]
  intro j hj
  exact ha j (List.mem_range.1 hj)
theorem hdsB_not {hs hs' : Opts} {j : Nat} (hj : j < hs.length) (h : hdB hs hs' j = false) : hdsB hs hs' = false := by
  unfold hdsB
  rw [Bool.and_eq_false_iff]
  right
  rw [List.all_eq_false]
  exact ⟨j, List.mem_range.2 hj, by rw [h]; simp⟩
theorem allB_succ {hs hs' : Opts} {k : Nat} (h : allB hs hs' k) (hk : hdB hs hs' k = true) : allB hs hs' (k + 1) := fun j hj => by
  by_cases e : j = k
  · rw [e]; exact hk
  · exact h j (by omega)
set_option maxHeartbeats 2000000 in
set_option maxRecDepth 100000 in
theorem sameHead_any {S S' : Nat → Prop} {w : World} {u u' : Value} {zs zs' : List Int} (K K' : Int) (h : BS S w u zs) (h' : BS S' w u' zs') :
    Calls Try.prog 37 #[.agg #[.int .u8 K, u], .agg #[.int .u8 K', u']] w fun e w' => e = .returned (.bool ((K == K') && bodyB zs zs')) ∧ Below w.heap.size w w' := by
  obtain ⟨a, n, m, rfl⟩ := h.slc
  obtain ⟨a', n', m', rfl⟩ := h'.slc
  obtain ⟨W0, hW0⟩ : ∃ W0, W0 = (w.alloc (.cells #[.int .u8 K, .slice a n m] 52)).alloc (.cells #[.int .u8 K', .slice a' n' m'] 52) := ⟨_, rfl⟩
  have hB : Below w.heap.size w W0 := by rw [hW0]; exact ((Below.refl w.heap.size w).alloc (Nat.le_refl _) _).alloc (by simp) _
  have b1 : W0.heap[w.heap.size]? = some (.cells [.int .u8 K, .slice a n m].toArray 52) := by rw [hW0]; exact blk_alloc (blk_new w _) _
  have b2 : W0.heap[w.heap.size + 1]? = some (.cells [.int .u8 K', .slice a' n' m'].toArray 52) := by
    have := blk_new (w.alloc (.cells #[.int .u8 K, .slice a n m] 52)) (.cells [.int .u8 K', .slice a' n' m'].toArray 52)
    rw [show (w.alloc (.cells #[.int .u8 K, .slice a n m] 52)).heap.size = w.heap.size + 1 by simp] at this
    rw [hW0]; exact this
  have c0 : W0.cell? ⟨w.heap.size, 0, none⟩ = some (.int .u8 K) := blk_cell b1 rfl
  have c1 : W0.cell? ⟨w.heap.size, 1, none⟩ = some (.slice a n m) := blk_cell b1 rfl
  have d0 : W0.cell? ⟨w.heap.size + 1, 0, none⟩ = some (.int .u8 K') := blk_cell b2 rfl
  have d1 : W0.cell? ⟨w.heap.size + 1, 1, none⟩ = some (.slice a' n' m') := blk_cell b2 rfl
  have he := Equal_here _ _ _ _ _ (h.on hB).bytes.text (h'.on hB).bytes.text
  unfold bodyB
  generalize ((strOfNums zs).toList == (strOfNums zs').toList) = x2 at *
  have HE : Hid _ := he
  have HB : Hid (Below w.heap.size w W0) := hB
  have hW := hW0.symm
  obtain ⟨x1, hx1⟩ : ∃ x, (K == K') = x := ⟨_, rfl⟩
  rw [hx1]
  clear he hB h h' b1 b2 hW0
  cases x1
  · go_enter Try.func37, Try.ntmps37
    go_wp2_with fail
    go_ret
    exact ⟨rfl, HB.out⟩
  · go_enter Try.func37, Try.ntmps37
    go_wp2_with fail
    refine Calls.mono HE.out ?_
    rintro e1 w1 ⟨rfl, rfl⟩
    go_wp2
    all_goals
      go_ret
      exact ⟨rfl, HB.out⟩
theorem HS.nthD {S : Nat → Prop} {w : World} {a : Option Addr} {cap : Nat} {hs : Opts} (h : HS S w (.slice a hs.length cap) hs) {k : Nat} (hk : k < hs.length) :
    ∃ b off a1 c1, a = some ⟨b, off, none⟩ ∧ ∀ W, Below w.heap.size w W → W.cell? ⟨b, off + k * 2, none⟩ = some (.int .u8 (oK hs k)) ∧ W.cell? ⟨b, off + k * 2 + 1, none⟩ = some (.slice a1 (oD hs k).length c1) ∧ BS S W (.slice a1 (oD hs k).length c1) (oD hs k) := by
  obtain ⟨h1, h2, a', cap', e, hz⟩ := h
  injection e with e _ _
  subst e
  rcases hz with hz | ⟨b, off, rfl, hlt, hS, hc⟩
  · omega
  obtain ⟨c0, s, c1, hb⟩ := hc k hk
  obtain ⟨_, _, a1, k1, rfl, _⟩ := hb.row
  refine ⟨b, off, a1, k1, rfl, fun W hW => ⟨?_, ?_, hb.on hW⟩⟩
  · rw [← c0]; exact hW.cell hlt
  · rw [← c1]; exact hW.cell hlt
set_option maxHeartbeats 4000000 in
set_option maxRecDepth 100000 in
theorem EqualFunc_any {S S' : Nat → Prop} {w : World} {v v' : Value} {hs hs' : Opts} (h : HS S w v hs) (h' : HS S' w v' hs') :
    Calls Try.prog 36 #[v, v', .func (.func 37) #[] #[]] w fun e w' => e = .returned (.bool (hdsB hs hs')) ∧ Below w.heap.size w w' := by
  obtain ⟨ah, ch, rfl, -⟩ := h.val
  obtain ⟨ah', ch', rfl, -⟩ := h'.val
  have HA : Hid (HS S w (.slice ah hs.length ch) hs) := h
  have HA' : Hid (HS S' w (.slice ah' hs'.length ch') hs') := h'
  have hlh := h.len
  clear h h'
  by_cases hln : hs.length = hs'.length
  · obtain ⟨N, hN⟩ : ∃ N, hs.length = N := ⟨_, rfl⟩
    have HN : Hid (hs.length = N) := hN
    have HN' : Hid (hs'.length = N) := hln.symm.trans hN
    rw [← hln, hN]
    rw [hN] at hlh
    clear hN hln
    go_enter Try.func36, Try.ntmps36
    go_wp2
    go_loopw [17] (fun i wr => ∃ k : Nat, k ≤ N ∧ i = .int .i64 k ∧ allB hs hs' k ∧ Below w.heap.size w wr) (fun i _ => N - (intOf i).toNat)
    case atStart => exact ⟨0, Nat.zero_le _, rfl, (fun j hj => absurd hj (Nat.not_lt_zero _)), Below.refl _ _⟩
    case round =>
      obtain ⟨k, hk, rfl, hall, hBw⟩ := hrel
      by_cases hlt : k < N
      · obtain ⟨b1, o1, a1, c1, ea, hat1⟩ := HA.out.nthD (k := k) (by rw [HN.out]; exact hlt)
        obtain ⟨b2, o2, a2, c2, eb, hat2⟩ := HA'.out.nthD (k := k) (by rw [HN'.out]; exact hlt)
        subst ea eb
        obtain ⟨x0, x1, -⟩ := hat1 _ hBw
        obtain ⟨W1, hW1⟩ : ∃ W1, W1 = wr.alloc (.cells #[.int .u8 (oK hs k), .slice a1 (oD hs k).length c1] 52) := ⟨_, rfl⟩
        have hB1 : Below w.heap.size w W1 := by rw [hW1]; exact hBw.alloc hBw.size _
        obtain ⟨y0, y1, -⟩ := hat2 _ hB1
        obtain ⟨W2, hW2⟩ : ∃ W2, W2 = W1.alloc (.cells #[.int .u8 (oK hs' k), .slice a2 (oD hs' k).length c2] 52) := ⟨_, rfl⟩
        have hB2 : Below w.heap.size w W2 := by rw [hW2]; exact hB1.alloc hB1.size _
        have q1 : W2.heap[wr.heap.size]? = some (.cells [.int .u8 (oK hs k), .slice a1 (oD hs k).length c1].toArray 52) := by rw [hW2]; refine blk_alloc ?_ _; rw [hW1]; exact blk_new wr _
        have q2 : W2.heap[wr.heap.size + 1]? = some (.cells [.int .u8 (oK hs' k), .slice a2 (oD hs' k).length c2].toArray 52) := by
          have := blk_new W1 (.cells [.int .u8 (oK hs' k), .slice a2 (oD hs' k).length c2].toArray 52)
          rw [show W1.heap.size = wr.heap.size + 1 by rw [hW1]; simp] at this
          rw [hW2]; exact this
        have z0 : W2.cell? ⟨wr.heap.size, 0, none⟩ = some (.int .u8 (oK hs k)) := blk_cell q1 rfl
        have z1 : W2.cell? ⟨wr.heap.size, 1, none⟩ = some (.slice a1 (oD hs k).length c1) := blk_cell q1 rfl
        have u0 : W2.cell? ⟨wr.heap.size + 1, 0, none⟩ = some (.int .u8 (oK hs' k)) := blk_cell q2 rfl
        have u1 : W2.cell? ⟨wr.heap.size + 1, 1, none⟩ = some (.slice a2 (oD hs' k).length c2) := blk_cell q2 rfl
        have HSH : Hid (Calls Try.prog 37 #[.agg #[.int .u8 (oK hs k), .slice a1 (oD hs k).length c1], .agg #[.int .u8 (oK hs' k), .slice a2 (oD hs' k).length c2]] W2 fun e w' => e = .returned (.bool (hdB hs hs' k)) ∧ Below W2.heap.size W2 w') := sameHead_any (oK hs k) (oK hs' k) (hat1 _ hB2).2.2 (hat2 _ hB2).2.2
        have HALL : Hid (allB hs hs' k) := hall
        have HB2 : Hid (Below w.heap.size w W2) := hB2
        have hs1 : W1.heap.size = wr.heap.size + 1 := by rw [hW1]; simp
        have HKL : Hid (k < hs.length) := by rw [HN.out]; exact hlt
        have e1 := hW1.symm
        have e2 := hW2.symm
        clear hat1 hat2 hBw hB1 hB2 q1 q2 hall hW1 hW2
        generalize oK hs k = K at *
        generalize oK hs' k = K' at *
        generalize (oD hs k).length = D at *
        generalize (oD hs' k).length = D' at *
        obtain ⟨x, hx⟩ : ∃ x, hdB hs hs' k = x := ⟨_, rfl⟩
        rw [hx] at HSH
        have HX : Hid _ := hx
        clear hx
        go_wp2_with fail
        refine Calls.mono HSH.out ?_
        rintro e3 w3 ⟨rfl, hb3⟩
        have HB3 : Hid (Below w.heap.size w w3) := HB2.out.trans (hb3.mono HB2.out.size)
        clear hb3 HSH HB2 x0 x1 y0 y1 z0 z1 u0 u1 e1 e2 hs1
        cases x
        · go_wp2
          go_ret
          exact ⟨by rw [hdsB_not HKL.out HX.out]; rfl, HB3.out⟩
        · go_wp2
          exact ⟨⟨k + 1, by omega, by simp, allB_succ HALL.out HX.out, HB3.out⟩, by simp [intOf]; omega⟩
      · obtain rfl : k = N := by omega
        have HB3 : Hid (Below w.heap.size w wr) := hBw
        have HALL : Hid (hdsB hs hs' = true) := hdsB_all (HN.out.trans HN'.out.symm) (by rw [HN.out]; exact hall)
        clear hBw hall
        go_wp2
        go_ret
        exact ⟨by rw [HALL.out]; rfl, HB3.out⟩
  · have HQ : Hid (hdsB hs hs' = false) := hdsB_len hln
    have q : ((hs.length : Int) == (hs'.length : Int)) = false := by simp; omega
    have q2 : (hs.length == hs'.length) = false := by simp; omega
    clear hln
    generalize hs.length = N at *
    generalize hs'.length = N' at *
    rw [HQ.out]
    go_enter Try.func36, Try.ntmps36
    go_wp2
    go_ret
    exact ⟨rfl, Below.refl _ _⟩

end Go.Proofs.Ytbaeogoojpngbaa
