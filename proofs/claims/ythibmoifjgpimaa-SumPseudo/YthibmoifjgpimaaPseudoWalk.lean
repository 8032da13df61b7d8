/-
  The walk of the statement SumPseudo: the pseudo headers of all addresses, protocols and lengths, as the document has them.
-/
import Derived.Test.YthibmoifjgpimaaPseudo6
namespace Go.Proofs.Ythibmoifjgpimaa
open Go Go.RowKit Go.Shelf

theorem nil_bytes (n₀ : Nat) (w : World) : BytesAt n₀ w (.slice none 0 0) [] := ⟨fun z hz => (by cases hz), by simp, none, 0, rfl, .inl rfl⟩
/-- In every world: the bytes zs and the number er. -/
def TextGive (f : FuncId) (args : Array Value) (zs : List Int) (er : Int) : Prop :=
  ∀ W, Calls Try.prog f args W fun e w' => ∃ v, e = .returned (.tuple #[v, .int .i64 er]) ∧ BytesAt w'.heap.size w' v zs ∧ Below W.heap.size W w'

set_option maxRecDepth 10000 in
set_option maxHeartbeats 1000000 in
theorem pseudo4_no (a0 a1 a2 a3 b0 b1 b2 b3 p n : Int) (hn : ¬ (0 ≤ n ∧ n ≤ 65535)) (w : World) :
    Calls Try.prog 15 #[.agg #[.int .u8 a0, .int .u8 a1, .int .u8 a2, .int .u8 a3], .agg #[.int .u8 b0, .int .u8 b1, .int .u8 b2, .int .u8 b3], .int .u8 p, .int .i64 n] w fun e w' => e = .returned (.tuple #[.slice none 0 0, .int .i64 2]) ∧ Below w.heap.size w w' := by
  have H : Hid _ := hn
  clear hn
  go_enter Try.func15, Try.ntmps15
  go_wp2_with fail
  refine (fits_no n H.out _).mono ?_
  rintro e w' ⟨rfl, rfl⟩
  go_wp2
  go_ret2
  exact ⟨rfl, ((Below.refl _ w).alloc (Nat.le_refl _) _).alloc (by simp) _⟩

set_option maxRecDepth 10000 in
set_option maxHeartbeats 1000000 in
theorem pseudo4_ref_no (a0 a1 a2 a3 b0 b1 b2 b3 p n : Int) (hn : ¬ (0 ≤ n ∧ n ≤ 65535)) (w : World) :
    Calls Try.prog 16 #[.agg #[.int .u8 a0, .int .u8 a1, .int .u8 a2, .int .u8 a3], .agg #[.int .u8 b0, .int .u8 b1, .int .u8 b2, .int .u8 b3], .int .u8 p, .int .i64 n] w fun e w' => e = .returned (.tuple #[.slice none 0 0, .int .i64 2]) ∧ Below w.heap.size w w' := by
  by_cases h : n < 0
  · have hd : decide (n < 0) = true := decide_eq_true h
    clear hn
    go_enter Try.func16, Try.ntmps16
    go_wp2
    go_ret2
    exact ⟨rfl, ((Below.refl _ w).alloc (Nat.le_refl _) _).alloc (by simp) _⟩
  · have hd : decide (n < 0) = false := decide_eq_false h
    have h' : 65535 < n := by omega
    have hd1 : decide (65535 < n) = true := decide_eq_true h'
    clear hn h
    go_enter Try.func16, Try.ntmps16
    go_wp2
    go_ret2
    exact ⟨rfl, ((Below.refl _ w).alloc (Nat.le_refl _) _).alloc (by simp) _⟩

set_option maxRecDepth 10000 in
set_option maxHeartbeats 1000000 in
theorem pseudo6_no (a0 a1 a2 a3 a4 a5 a6 a7 a8 a9 a10 a11 a12 a13 a14 a15 b0 b1 b2 b3 b4 b5 b6 b7 b8 b9 b10 b11 b12 b13 b14 b15 p n : Int) (hn : ¬ (0 ≤ n ∧ n ≤ 65535)) (w : World) :
    Calls Try.prog 17 #[.agg #[.int .u8 a0, .int .u8 a1, .int .u8 a2, .int .u8 a3, .int .u8 a4, .int .u8 a5, .int .u8 a6, .int .u8 a7, .int .u8 a8, .int .u8 a9, .int .u8 a10, .int .u8 a11, .int .u8 a12, .int .u8 a13, .int .u8 a14, .int .u8 a15], .agg #[.int .u8 b0, .int .u8 b1, .int .u8 b2, .int .u8 b3, .int .u8 b4, .int .u8 b5, .int .u8 b6, .int .u8 b7, .int .u8 b8, .int .u8 b9, .int .u8 b10, .int .u8 b11, .int .u8 b12, .int .u8 b13, .int .u8 b14, .int .u8 b15], .int .u8 p, .int .i64 n] w fun e w' => e = .returned (.tuple #[.slice none 0 0, .int .i64 2]) ∧ Below w.heap.size w w' := by
  have H : Hid _ := hn
  clear hn
  go_enter Try.func17, Try.ntmps17
  go_wp2_with fail
  refine (fits_no n H.out _).mono ?_
  rintro e w' ⟨rfl, rfl⟩
  go_wp2
  go_ret2
  exact ⟨rfl, ((Below.refl _ w).alloc (Nat.le_refl _) _).alloc (by simp) _⟩

set_option maxRecDepth 10000 in
set_option maxHeartbeats 1000000 in
theorem pseudo6_ref_no (a0 a1 a2 a3 a4 a5 a6 a7 a8 a9 a10 a11 a12 a13 a14 a15 b0 b1 b2 b3 b4 b5 b6 b7 b8 b9 b10 b11 b12 b13 b14 b15 p n : Int) (hn : ¬ (0 ≤ n ∧ n ≤ 65535)) (w : World) :
    Calls Try.prog 18 #[.agg #[.int .u8 a0, .int .u8 a1, .int .u8 a2, .int .u8 a3, .int .u8 a4, .int .u8 a5, .int .u8 a6, .int .u8 a7, .int .u8 a8, .int .u8 a9, .int .u8 a10, .int .u8 a11, .int .u8 a12, .int .u8 a13, .int .u8 a14, .int .u8 a15], .agg #[.int .u8 b0, .int .u8 b1, .int .u8 b2, .int .u8 b3, .int .u8 b4, .int .u8 b5, .int .u8 b6, .int .u8 b7, .int .u8 b8, .int .u8 b9, .int .u8 b10, .int .u8 b11, .int .u8 b12, .int .u8 b13, .int .u8 b14, .int .u8 b15], .int .u8 p, .int .i64 n] w fun e w' => e = .returned (.tuple #[.slice none 0 0, .int .i64 2]) ∧ Below w.heap.size w w' := by
  by_cases h : n < 0
  · have hd : decide (n < 0) = true := decide_eq_true h
    clear hn
    go_enter Try.func18, Try.ntmps18
    go_wp2
    go_ret2
    exact ⟨rfl, ((Below.refl _ w).alloc (Nat.le_refl _) _).alloc (by simp) _⟩
  · have hd : decide (n < 0) = false := decide_eq_false h
    have h' : 65535 < n := by omega
    have hd1 : decide (65535 < n) = true := decide_eq_true h'
    clear hn h
    go_enter Try.func18, Try.ntmps18
    go_wp2
    go_ret2
    exact ⟨rfl, ((Below.refl _ w).alloc (Nat.le_refl _) _).alloc (by simp) _⟩

theorem pseudo4_both (a0 a1 a2 a3 b0 b1 b2 b3 p n : Int) (ha : Fit [a0, a1, a2, a3]) (hb : Fit [b0, b1, b2, b3]) (hp : 0 ≤ p ∧ p < 256) :
    ∃ zs er, TextGive 15 #[.agg #[.int .u8 a0, .int .u8 a1, .int .u8 a2, .int .u8 a3], .agg #[.int .u8 b0, .int .u8 b1, .int .u8 b2, .int .u8 b3], .int .u8 p, .int .i64 n] zs er ∧ TextGive 16 #[.agg #[.int .u8 a0, .int .u8 a1, .int .u8 a2, .int .u8 a3], .agg #[.int .u8 b0, .int .u8 b1, .int .u8 b2, .int .u8 b3], .int .u8 p, .int .i64 n] zs er := by
  by_cases hn : 0 ≤ n ∧ n ≤ 65535
  · exact ⟨_, 0, fun W => pseudo4_calls a0 a1 a2 a3 b0 b1 b2 b3 p n ha hb hp hn W, fun W => pseudo4_ref a0 a1 a2 a3 b0 b1 b2 b3 p n ha hb hp hn W⟩
  · exact ⟨[], 2, fun W => (pseudo4_no a0 a1 a2 a3 b0 b1 b2 b3 p n hn W).mono (fun _ _ hr => ⟨_, hr.1, nil_bytes _ _, hr.2⟩), fun W => (pseudo4_ref_no a0 a1 a2 a3 b0 b1 b2 b3 p n hn W).mono (fun _ _ hr => ⟨_, hr.1, nil_bytes _ _, hr.2⟩)⟩

theorem pseudo6_both (a0 a1 a2 a3 a4 a5 a6 a7 a8 a9 a10 a11 a12 a13 a14 a15 b0 b1 b2 b3 b4 b5 b6 b7 b8 b9 b10 b11 b12 b13 b14 b15 p n : Int) (ha : Fit [a0, a1, a2, a3, a4, a5, a6, a7, a8, a9, a10, a11, a12, a13, a14, a15]) (hb : Fit [b0, b1, b2, b3, b4, b5, b6, b7, b8, b9, b10, b11, b12, b13, b14, b15]) (hp : 0 ≤ p ∧ p < 256) :
    ∃ zs er, TextGive 17 #[.agg #[.int .u8 a0, .int .u8 a1, .int .u8 a2, .int .u8 a3, .int .u8 a4, .int .u8 a5, .int .u8 a6, .int .u8 a7, .int .u8 a8, .int .u8 a9, .int .u8 a10, .int .u8 a11, .int .u8 a12, .int .u8 a13, .int .u8 a14, .int .u8 a15], .agg #[.int .u8 b0, .int .u8 b1, .int .u8 b2, .int .u8 b3, .int .u8 b4, .int .u8 b5, .int .u8 b6, .int .u8 b7, .int .u8 b8, .int .u8 b9, .int .u8 b10, .int .u8 b11, .int .u8 b12, .int .u8 b13, .int .u8 b14, .int .u8 b15], .int .u8 p, .int .i64 n] zs er ∧ TextGive 18 #[.agg #[.int .u8 a0, .int .u8 a1, .int .u8 a2, .int .u8 a3, .int .u8 a4, .int .u8 a5, .int .u8 a6, .int .u8 a7, .int .u8 a8, .int .u8 a9, .int .u8 a10, .int .u8 a11, .int .u8 a12, .int .u8 a13, .int .u8 a14, .int .u8 a15], .agg #[.int .u8 b0, .int .u8 b1, .int .u8 b2, .int .u8 b3, .int .u8 b4, .int .u8 b5, .int .u8 b6, .int .u8 b7, .int .u8 b8, .int .u8 b9, .int .u8 b10, .int .u8 b11, .int .u8 b12, .int .u8 b13, .int .u8 b14, .int .u8 b15], .int .u8 p, .int .i64 n] zs er := by
  by_cases hn : 0 ≤ n ∧ n ≤ 65535
  · exact ⟨_, 0, fun W => pseudo6_calls a0 a1 a2 a3 a4 a5 a6 a7 a8 a9 a10 a11 a12 a13 a14 a15 b0 b1 b2 b3 b4 b5 b6 b7 b8 b9 b10 b11 b12 b13 b14 b15 p n ha hb hp hn W, fun W => pseudo6_ref a0 a1 a2 a3 a4 a5 a6 a7 a8 a9 a10 a11 a12 a13 a14 a15 b0 b1 b2 b3 b4 b5 b6 b7 b8 b9 b10 b11 b12 b13 b14 b15 p n ha hb hp hn W⟩
  · exact ⟨[], 2, fun W => (pseudo6_no a0 a1 a2 a3 a4 a5 a6 a7 a8 a9 a10 a11 a12 a13 a14 a15 b0 b1 b2 b3 b4 b5 b6 b7 b8 b9 b10 b11 b12 b13 b14 b15 p n hn W).mono (fun _ _ hr => ⟨_, hr.1, nil_bytes _ _, hr.2⟩), fun W => (pseudo6_ref_no a0 a1 a2 a3 a4 a5 a6 a7 a8 a9 a10 a11 a12 a13 a14 a15 b0 b1 b2 b3 b4 b5 b6 b7 b8 b9 b10 b11 b12 b13 b14 b15 p n hn W).mono (fun _ _ hr => ⟨_, hr.1, nil_bytes _ _, hr.2⟩)⟩

theorem bcell {W w1 : World} (hb : Below W.heap.size W w1) : ∀ b o, b < W.heap.size → w1.cell? ⟨b, o, none⟩ = W.cell? ⟨b, o, none⟩ :=
  fun b o h => hb.cell (p := ⟨b, o, none⟩) h

set_option maxRecDepth 20000 in
set_option maxHeartbeats 4000000 in
theorem sumPseudo_walk (a0 a1 a2 a3 b0 b1 b2 b3 c0 c1 c2 c3 c4 c5 c6 c7 c8 c9 c10 c11 c12 c13 c14 c15 d0 d1 d2 d3 d4 d5 d6 d7 d8 d9 d10 d11 d12 d13 d14 d15 p n : Int) (ha : Fit [a0, a1, a2, a3]) (hb : Fit [b0, b1, b2, b3]) (hc : Fit [c0, c1, c2, c3, c4, c5, c6, c7, c8, c9, c10, c11, c12, c13, c14, c15]) (hd : Fit [d0, d1, d2, d3, d4, d5, d6, d7, d8, d9, d10, d11, d12, d13, d14, d15]) (hp : 0 ≤ p ∧ p < 256) (w : World) :
    Calls Try.prog 4 #[.agg #[.int .u8 a0, .int .u8 a1, .int .u8 a2, .int .u8 a3], .agg #[.int .u8 b0, .int .u8 b1, .int .u8 b2, .int .u8 b3], .agg #[.int .u8 c0, .int .u8 c1, .int .u8 c2, .int .u8 c3, .int .u8 c4, .int .u8 c5, .int .u8 c6, .int .u8 c7, .int .u8 c8, .int .u8 c9, .int .u8 c10, .int .u8 c11, .int .u8 c12, .int .u8 c13, .int .u8 c14, .int .u8 c15], .agg #[.int .u8 d0, .int .u8 d1, .int .u8 d2, .int .u8 d3, .int .u8 d4, .int .u8 d5, .int .u8 d6, .int .u8 d7, .int .u8 d8, .int .u8 d9, .int .u8 d10, .int .u8 d11, .int .u8 d12, .int .u8 d13, .int .u8 d14, .int .u8 d15], .int .u8 p, .int .i64 n] w fun e w' => e = .returned (.bool true) ∧ Below w.heap.size w w' := by
  obtain ⟨zs, er, h4, h4'⟩ := pseudo4_both a0 a1 a2 a3 b0 b1 b2 b3 p n ha hb hp
  obtain ⟨ys, es, h6, h6'⟩ := pseudo6_both c0 c1 c2 c3 c4 c5 c6 c7 c8 c9 c10 c11 c12 c13 c14 c15 d0 d1 d2 d3 d4 d5 d6 d7 d8 d9 d10 d11 d12 d13 d14 d15 p n hc hd hp
  have hB0 : Below w.heap.size w ((((w.alloc (.cells #[.int .u8 a0, .int .u8 a1, .int .u8 a2, .int .u8 a3] 30)).alloc (.cells #[.int .u8 b0, .int .u8 b1, .int .u8 b2, .int .u8 b3] 30)).alloc (.cells #[.int .u8 c0, .int .u8 c1, .int .u8 c2, .int .u8 c3, .int .u8 c4, .int .u8 c5, .int .u8 c6, .int .u8 c7, .int .u8 c8, .int .u8 c9, .int .u8 c10, .int .u8 c11, .int .u8 c12, .int .u8 c13, .int .u8 c14, .int .u8 c15] 31)).alloc (.cells #[.int .u8 d0, .int .u8 d1, .int .u8 d2, .int .u8 d3, .int .u8 d4, .int .u8 d5, .int .u8 d6, .int .u8 d7, .int .u8 d8, .int .u8 d9, .int .u8 d10, .int .u8 d11, .int .u8 d12, .int .u8 d13, .int .u8 d14, .int .u8 d15] 31)) := ((((Below.refl _ w).alloc (Nat.le_refl _) _).alloc (by simp) _).alloc (by simp; omega) _).alloc (by simp; omega) _
  clear ha hb hc hd
  go_enter Try.func4, Try.ntmps4
  go_wp2_with fail
  refine (h4 _).mono ?_
  rintro e w1 ⟨v1, rfl, ht1, hB1⟩
  have hc1 := bcell hB1
  go_wp2_with fail
  refine (h4' _).mono ?_
  rintro e w2 ⟨v2, rfl, ht2, hB2⟩
  have hB12 := hB1.trans (hB2.mono hB1.size)
  clear hc1
  have hc2 := bcell hB12
  go_wp2_with fail
  refine (h6 _).mono ?_
  rintro e w3 ⟨v3, rfl, ht3, hB3⟩
  have hB13 := hB12.trans (hB3.mono hB12.size)
  clear hc2
  have hc3 := bcell hB13
  go_wp2_with fail
  refine (h6' _).mono ?_
  rintro e w4 ⟨v4, rfl, ht4, hB4⟩
  have hB34 := hB3.trans (hB4.mono hB3.size)
  have hB24 := hB2.trans (hB34.mono hB2.size)
  have hB14 := hB13.trans (hB4.mono hB13.size)
  have t1 := (ht1.later hB24).text
  have t2 := (ht2.later hB34).text
  have t3 := (ht3.later hB4).text
  have t4 := ht4.text
  have hBB := hB0.trans (hB14.mono hB0.size)
  clear hc3 h4 h4' h6 h6' hB1 hB2 hB3 hB4 hB12 hB13 hB34 hB24 hB14 hB0 ht1 ht2 ht3 ht4
  go_wp2_with fail
  refine (alive_calls _).mono ?_
  rintro e W7 ⟨rfl, hB7⟩
  go_wp2
  go_ret
  exact ⟨rfl, hBB.trans (hB7.mono hBB.size)⟩

end Go.Proofs.Ythibmoifjgpimaa
