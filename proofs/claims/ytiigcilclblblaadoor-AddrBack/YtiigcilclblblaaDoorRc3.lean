/-
  The statement AddrBack for every argument.
-/
import Derived.Test.YtiigcilclblblaaDoorRc2
namespace Go.Proofs.YtiigcilclblblaaDoor
open Go Go.RowKit Go.ChangeShapes Go.WideShapes Go.ChangeAt
set_option linter.unusedVariables false
set_option linter.unusedSimpArgs false

theorem bytes_ne (a b : List UInt8) (h : ¬ a = b) : ((⟨a.toArray⟩ : ByteArray) == (⟨b.toArray⟩ : ByteArray)) = false := by
  have : (a.toArray == b.toArray) = false := by rw [beq_eq_false_iff_ne]; intro e; exact h (by simpa using e)
  exact this

set_option maxHeartbeats 8000000 in
set_option maxRecDepth 100000 in
theorem addrBack_walk (a0 a1 a2 a3 b0 b1 b2 b3 b4 b5 b6 b7 b8 b9 b10 b11 b12 b13 b14 b15 c0 c1 c2 c3 c4 c5 c6 c7 c8 c9 c10 c11 c12 c13 c14 c15 : Int) (h0 : Byte a0) (h1 : Byte a1) (h2 : Byte a2) (h3 : Byte a3) (f0 : 0 ≤ b0 ∧ b0 < 256) (f1 : 0 ≤ b1 ∧ b1 < 256) (f2 : 0 ≤ b2 ∧ b2 < 256) (f3 : 0 ≤ b3 ∧ b3 < 256) (f4 : 0 ≤ b4 ∧ b4 < 256) (f5 : 0 ≤ b5 ∧ b5 < 256) (f6 : 0 ≤ b6 ∧ b6 < 256) (f7 : 0 ≤ b7 ∧ b7 < 256) (f8 : 0 ≤ b8 ∧ b8 < 256) (f9 : 0 ≤ b9 ∧ b9 < 256) (f10 : 0 ≤ b10 ∧ b10 < 256) (f11 : 0 ≤ b11 ∧ b11 < 256) (f12 : 0 ≤ b12 ∧ b12 < 256) (f13 : 0 ≤ b13 ∧ b13 < 256) (f14 : 0 ≤ b14 ∧ b14 < 256) (f15 : 0 ≤ b15 ∧ b15 < 256) (g0 : 0 ≤ c0 ∧ c0 < 256) (g1 : 0 ≤ c1 ∧ c1 < 256) (g2 : 0 ≤ c2 ∧ c2 < 256) (g3 : 0 ≤ c3 ∧ c3 < 256) (g4 : 0 ≤ c4 ∧ c4 < 256) (g5 : 0 ≤ c5 ∧ c5 < 256) (g6 : 0 ≤ c6 ∧ c6 < 256) (g7 : 0 ≤ c7 ∧ c7 < 256) (g8 : 0 ≤ c8 ∧ c8 < 256) (g9 : 0 ≤ c9 ∧ c9 < 256) (g10 : 0 ≤ c10 ∧ c10 < 256) (g11 : 0 ≤ c11 ∧ c11 < 256) (g12 : 0 ≤ c12 ∧ c12 < 256) (g13 : 0 ≤ c13 ∧ c13 < 256) (g14 : 0 ≤ c14 ∧ c14 < 256) (g15 : 0 ≤ c15 ∧ c15 < 256) (w : World) (tb : Tabs w ∧ Tz w) :
    Calls Tryd.prog 9 #[.agg #[.int .u8 a0, .int .u8 a1, .int .u8 a2, .int .u8 a3], .agg #[.int .u8 b0, .int .u8 b1, .int .u8 b2, .int .u8 b3, .int .u8 b4, .int .u8 b5, .int .u8 b6, .int .u8 b7, .int .u8 b8, .int .u8 b9, .int .u8 b10, .int .u8 b11, .int .u8 b12, .int .u8 b13, .int .u8 b14, .int .u8 b15], .agg #[.int .u8 c0, .int .u8 c1, .int .u8 c2, .int .u8 c3, .int .u8 c4, .int .u8 c5, .int .u8 c6, .int .u8 c7, .int .u8 c8, .int .u8 c9, .int .u8 c10, .int .u8 c11, .int .u8 c12, .int .u8 c13, .int .u8 c14, .int .u8 c15]] w fun e w' => e = .returned (.bool true) ∧ Below w.heap.size w w' := by
  have HT4 : Hid (∀ W, Below w.heap.size w W → Calls Tryd.prog 15 #[.agg #[.int .u8 a0, .int .u8 a1, .int .u8 a2, .int .u8 a3]] W fun e w' => e = .returned (strV (text4 [a0, a1, a2, a3])) ∧ Below W.heap.size W w') := fun W hW => text4_calls a0 a1 a2 a3 h0 h1 h2 h3 W (Tabs.on tb.1 hW)
  have HP4 : Hid (∀ W, Calls Tryd.prog 13 #[strV (text4 [a0, a1, a2, a3])] W fun e w' => e = .returned (.tuple #[.agg #[.int .u8 a0, .int .u8 a1, .int .u8 a2, .int .u8 a3], .int .i64 0, .int .i64 0]) ∧ Below W.heap.size W w') := fun W => back4 a0 a1 a2 a3 h0 h1 h2 h3 W
  have HTB : Hid (∀ W, Below w.heap.size w W → Calls Tryd.prog 20 #[.agg #[.int .u8 b0, .int .u8 b1, .int .u8 b2, .int .u8 b3, .int .u8 b4, .int .u8 b5, .int .u8 b6, .int .u8 b7, .int .u8 b8, .int .u8 b9, .int .u8 b10, .int .u8 b11, .int .u8 b12, .int .u8 b13, .int .u8 b14, .int .u8 b15]] W fun e w' => e = .returned (strV (own6 [b0 * 256 + b1, b2 * 256 + b3, b4 * 256 + b5, b6 * 256 + b7, b8 * 256 + b9, b10 * 256 + b11, b12 * 256 + b13, b14 * 256 + b15])) ∧ Below W.heap.size W w') := fun W hW => text6_all b0 b1 b2 b3 b4 b5 b6 b7 b8 b9 b10 b11 b12 b13 b14 b15 f0 f1 f2 f3 f4 f5 f6 f7 f8 f9 f10 f11 f12 f13 f14 f15 W (Tz.on tb.2 hW)
  have HTC : Hid (∀ W, Below w.heap.size w W → Calls Tryd.prog 20 #[.agg #[.int .u8 c0, .int .u8 c1, .int .u8 c2, .int .u8 c3, .int .u8 c4, .int .u8 c5, .int .u8 c6, .int .u8 c7, .int .u8 c8, .int .u8 c9, .int .u8 c10, .int .u8 c11, .int .u8 c12, .int .u8 c13, .int .u8 c14, .int .u8 c15]] W fun e w' => e = .returned (strV (own6 [c0 * 256 + c1, c2 * 256 + c3, c4 * 256 + c5, c6 * 256 + c7, c8 * 256 + c9, c10 * 256 + c11, c12 * 256 + c13, c14 * 256 + c15])) ∧ Below W.heap.size W w') := fun W hW => text6_all c0 c1 c2 c3 c4 c5 c6 c7 c8 c9 c10 c11 c12 c13 c14 c15 g0 g1 g2 g3 g4 g5 g6 g7 g8 g9 g10 g11 g12 g13 g14 g15 W (Tz.on tb.2 hW)
  have HP6 : Hid (∀ W, Calls Tryd.prog 18 #[strV (own6 [b0 * 256 + b1, b2 * 256 + b3, b4 * 256 + b5, b6 * 256 + b7, b8 * 256 + b9, b10 * 256 + b11, b12 * 256 + b13, b14 * 256 + b15])] W fun e w' => e = .returned (.tuple #[.agg #[.int .u8 b0, .int .u8 b1, .int .u8 b2, .int .u8 b3, .int .u8 b4, .int .u8 b5, .int .u8 b6, .int .u8 b7, .int .u8 b8, .int .u8 b9, .int .u8 b10, .int .u8 b11, .int .u8 b12, .int .u8 b13, .int .u8 b14, .int .u8 b15], .int .i64 0, .int .i64 0]) ∧ Below W.heap.size W w') := fun W => back6 b0 b1 b2 b3 b4 b5 b6 b7 b8 b9 b10 b11 b12 b13 b14 b15 f0 f1 f2 f3 f4 f5 f6 f7 f8 f9 f10 f11 f12 f13 f14 f15 W
  have HAW : Hid (∀ W, Below w.heap.size w W → Calls Tryd.prog 17 #[] W fun e w' => e = .returned (.bool true) ∧ Below W.heap.size W w') := fun W hW => Awake.on tb W hW
  have HI : Hid _ := own_inj b0 b1 b2 b3 b4 b5 b6 b7 b8 b9 b10 b11 b12 b13 b14 b15 c0 c1 c2 c3 c4 c5 c6 c7 c8 c9 c10 c11 c12 c13 c14 c15 f0 f1 f2 f3 f4 f5 f6 f7 f8 f9 f10 f11 f12 f13 f14 f15 g0 g1 g2 g3 g4 g5 g6 g7 g8 g9 g10 g11 g12 g13 g14 g15
  have hfa : FitB [a0, a1, a2, a3] := fun z hz => by
    simp only [List.mem_cons, List.not_mem_nil, or_false] at hz
    rcases hz with rfl | rfl | rfl | rfl <;> assumption
  have hfb : FitB [b0, b1, b2, b3, b4, b5, b6, b7, b8, b9, b10, b11, b12, b13, b14, b15] := fun z hz => by
    simp only [List.mem_cons, List.not_mem_nil, or_false] at hz
    rcases hz with rfl | rfl | rfl | rfl | rfl | rfl | rfl | rfl | rfl | rfl | rfl | rfl | rfl | rfl | rfl | rfl <;> assumption
  have hfc : FitB [c0, c1, c2, c3, c4, c5, c6, c7, c8, c9, c10, c11, c12, c13, c14, c15] := fun z hz => by
    simp only [List.mem_cons, List.not_mem_nil, or_false] at hz
    rcases hz with rfl | rfl | rfl | rfl | rfl | rfl | rfl | rfl | rfl | rfl | rfl | rfl | rfl | rfl | rfl | rfl <;> assumption
  generalize text4 [a0, a1, a2, a3] = T4 at *
  generalize own6 [b0 * 256 + b1, b2 * 256 + b3, b4 * 256 + b5, b6 * 256 + b7, b8 * 256 + b9, b10 * 256 + b11, b12 * 256 + b13, b14 * 256 + b15] = TB at *
  generalize own6 [c0 * 256 + c1, c2 * 256 + c3, c4 * 256 + c5, c6 * 256 + c7, c8 * 256 + c9, c10 * 256 + c11, c12 * 256 + c13, c14 * 256 + c15] = TC at *
  have ea9997 : ∀ W, (Op.equalIn 9999 23 (.agg #[.int .u8 a0, .int .u8 a1, .int .u8 a2, .int .u8 a3]) (.agg #[.int .u8 a0, .int .u8 a1, .int .u8 a2, .int .u8 a3])).run Tryd.prog W = .ok true W := fun W => by
    have := eq_arr4 9997 [a0, a1, a2, a3] [a0, a1, a2, a3] hfa hfa rfl rfl W
    rwa [decide_eq_true rfl] at this
  have eb9997 : ∀ W, (Op.equalIn 9999 31 (.agg #[.int .u8 b0, .int .u8 b1, .int .u8 b2, .int .u8 b3, .int .u8 b4, .int .u8 b5, .int .u8 b6, .int .u8 b7, .int .u8 b8, .int .u8 b9, .int .u8 b10, .int .u8 b11, .int .u8 b12, .int .u8 b13, .int .u8 b14, .int .u8 b15]) (.agg #[.int .u8 b0, .int .u8 b1, .int .u8 b2, .int .u8 b3, .int .u8 b4, .int .u8 b5, .int .u8 b6, .int .u8 b7, .int .u8 b8, .int .u8 b9, .int .u8 b10, .int .u8 b11, .int .u8 b12, .int .u8 b13, .int .u8 b14, .int .u8 b15])).run Tryd.prog W = .ok true W := fun W => by
    have := eq_arr16 9997 [b0, b1, b2, b3, b4, b5, b6, b7, b8, b9, b10, b11, b12, b13, b14, b15] [b0, b1, b2, b3, b4, b5, b6, b7, b8, b9, b10, b11, b12, b13, b14, b15] hfb hfb rfl rfl W
    rwa [decide_eq_true rfl] at this
  have ec9997 : Hid (∀ W, (Op.equalIn 9999 31 (.agg #[.int .u8 b0, .int .u8 b1, .int .u8 b2, .int .u8 b3, .int .u8 b4, .int .u8 b5, .int .u8 b6, .int .u8 b7, .int .u8 b8, .int .u8 b9, .int .u8 b10, .int .u8 b11, .int .u8 b12, .int .u8 b13, .int .u8 b14, .int .u8 b15]) (.agg #[.int .u8 c0, .int .u8 c1, .int .u8 c2, .int .u8 c3, .int .u8 c4, .int .u8 c5, .int .u8 c6, .int .u8 c7, .int .u8 c8, .int .u8 c9, .int .u8 c10, .int .u8 c11, .int .u8 c12, .int .u8 c13, .int .u8 c14, .int .u8 c15])).run Tryd.prog W = .ok (decide ([b0, b1, b2, b3, b4, b5, b6, b7, b8, b9, b10, b11, b12, b13, b14, b15] = [c0, c1, c2, c3, c4, c5, c6, c7, c8, c9, c10, c11, c12, c13, c14, c15])) W) := fun W => eq_arr16 9997 [b0, b1, b2, b3, b4, b5, b6, b7, b8, b9, b10, b11, b12, b13, b14, b15] [c0, c1, c2, c3, c4, c5, c6, c7, c8, c9, c10, c11, c12, c13, c14, c15] hfb hfc rfl rfl W
  have ea9998 : ∀ W, (Op.equalIn 10000 23 (.agg #[.int .u8 a0, .int .u8 a1, .int .u8 a2, .int .u8 a3]) (.agg #[.int .u8 a0, .int .u8 a1, .int .u8 a2, .int .u8 a3])).run Tryd.prog W = .ok true W := fun W => by
    have := eq_arr4 9998 [a0, a1, a2, a3] [a0, a1, a2, a3] hfa hfa rfl rfl W
    rwa [decide_eq_true rfl] at this
  have eb9998 : ∀ W, (Op.equalIn 10000 31 (.agg #[.int .u8 b0, .int .u8 b1, .int .u8 b2, .int .u8 b3, .int .u8 b4, .int .u8 b5, .int .u8 b6, .int .u8 b7, .int .u8 b8, .int .u8 b9, .int .u8 b10, .int .u8 b11, .int .u8 b12, .int .u8 b13, .int .u8 b14, .int .u8 b15]) (.agg #[.int .u8 b0, .int .u8 b1, .int .u8 b2, .int .u8 b3, .int .u8 b4, .int .u8 b5, .int .u8 b6, .int .u8 b7, .int .u8 b8, .int .u8 b9, .int .u8 b10, .int .u8 b11, .int .u8 b12, .int .u8 b13, .int .u8 b14, .int .u8 b15])).run Tryd.prog W = .ok true W := fun W => by
    have := eq_arr16 9998 [b0, b1, b2, b3, b4, b5, b6, b7, b8, b9, b10, b11, b12, b13, b14, b15] [b0, b1, b2, b3, b4, b5, b6, b7, b8, b9, b10, b11, b12, b13, b14, b15] hfb hfb rfl rfl W
    rwa [decide_eq_true rfl] at this
  have ec9998 : Hid (∀ W, (Op.equalIn 10000 31 (.agg #[.int .u8 b0, .int .u8 b1, .int .u8 b2, .int .u8 b3, .int .u8 b4, .int .u8 b5, .int .u8 b6, .int .u8 b7, .int .u8 b8, .int .u8 b9, .int .u8 b10, .int .u8 b11, .int .u8 b12, .int .u8 b13, .int .u8 b14, .int .u8 b15]) (.agg #[.int .u8 c0, .int .u8 c1, .int .u8 c2, .int .u8 c3, .int .u8 c4, .int .u8 c5, .int .u8 c6, .int .u8 c7, .int .u8 c8, .int .u8 c9, .int .u8 c10, .int .u8 c11, .int .u8 c12, .int .u8 c13, .int .u8 c14, .int .u8 c15])).run Tryd.prog W = .ok (decide ([b0, b1, b2, b3, b4, b5, b6, b7, b8, b9, b10, b11, b12, b13, b14, b15] = [c0, c1, c2, c3, c4, c5, c6, c7, c8, c9, c10, c11, c12, c13, c14, c15])) W) := fun W => eq_arr16 9998 [b0, b1, b2, b3, b4, b5, b6, b7, b8, b9, b10, b11, b12, b13, b14, b15] [c0, c1, c2, c3, c4, c5, c6, c7, c8, c9, c10, c11, c12, c13, c14, c15] hfb hfc rfl rfl W
  have hk1 := blk_new w (.cells #[.int .u8 a0, .int .u8 a1, .int .u8 a2, .int .u8 a3] 23)
  have hk2 := blk_alloc hk1 (.cells #[.int .u8 b0, .int .u8 b1, .int .u8 b2, .int .u8 b3, .int .u8 b4, .int .u8 b5, .int .u8 b6, .int .u8 b7, .int .u8 b8, .int .u8 b9, .int .u8 b10, .int .u8 b11, .int .u8 b12, .int .u8 b13, .int .u8 b14, .int .u8 b15] 31)
  have hb1 := blk_new (w.alloc (.cells #[.int .u8 a0, .int .u8 a1, .int .u8 a2, .int .u8 a3] 23)) (.cells #[.int .u8 b0, .int .u8 b1, .int .u8 b2, .int .u8 b3, .int .u8 b4, .int .u8 b5, .int .u8 b6, .int .u8 b7, .int .u8 b8, .int .u8 b9, .int .u8 b10, .int .u8 b11, .int .u8 b12, .int .u8 b13, .int .u8 b14, .int .u8 b15] 31)
  have hk3 := blk_alloc hk2 (.cells #[.int .u8 c0, .int .u8 c1, .int .u8 c2, .int .u8 c3, .int .u8 c4, .int .u8 c5, .int .u8 c6, .int .u8 c7, .int .u8 c8, .int .u8 c9, .int .u8 c10, .int .u8 c11, .int .u8 c12, .int .u8 c13, .int .u8 c14, .int .u8 c15] 31)
  have hb2 := blk_alloc hb1 (.cells #[.int .u8 c0, .int .u8 c1, .int .u8 c2, .int .u8 c3, .int .u8 c4, .int .u8 c5, .int .u8 c6, .int .u8 c7, .int .u8 c8, .int .u8 c9, .int .u8 c10, .int .u8 c11, .int .u8 c12, .int .u8 c13, .int .u8 c14, .int .u8 c15] 31)
  have hc1 := blk_new ((w.alloc (.cells #[.int .u8 a0, .int .u8 a1, .int .u8 a2, .int .u8 a3] 23)).alloc (.cells #[.int .u8 b0, .int .u8 b1, .int .u8 b2, .int .u8 b3, .int .u8 b4, .int .u8 b5, .int .u8 b6, .int .u8 b7, .int .u8 b8, .int .u8 b9, .int .u8 b10, .int .u8 b11, .int .u8 b12, .int .u8 b13, .int .u8 b14, .int .u8 b15] 31)) (.cells #[.int .u8 c0, .int .u8 c1, .int .u8 c2, .int .u8 c3, .int .u8 c4, .int .u8 c5, .int .u8 c6, .int .u8 c7, .int .u8 c8, .int .u8 c9, .int .u8 c10, .int .u8 c11, .int .u8 c12, .int .u8 c13, .int .u8 c14, .int .u8 c15] 31)
  have hB1 := (Below.refl w.heap.size w).alloc (Nat.le_refl _) (.cells #[.int .u8 a0, .int .u8 a1, .int .u8 a2, .int .u8 a3] 23)
  have hB2 := hB1.alloc hB1.size (.cells #[.int .u8 b0, .int .u8 b1, .int .u8 b2, .int .u8 b3, .int .u8 b4, .int .u8 b5, .int .u8 b6, .int .u8 b7, .int .u8 b8, .int .u8 b9, .int .u8 b10, .int .u8 b11, .int .u8 b12, .int .u8 b13, .int .u8 b14, .int .u8 b15] 31)
  have hB3 := hB2.alloc hB2.size (.cells #[.int .u8 c0, .int .u8 c1, .int .u8 c2, .int .u8 c3, .int .u8 c4, .int .u8 c5, .int .u8 c6, .int .u8 c7, .int .u8 c8, .int .u8 c9, .int .u8 c10, .int .u8 c11, .int .u8 c12, .int .u8 c13, .int .u8 c14, .int .u8 c15] 31)
  have z1 : (w.alloc (.cells #[.int .u8 a0, .int .u8 a1, .int .u8 a2, .int .u8 a3] 23)).heap.size = w.heap.size + 1 := by simp
  have z2 : ((w.alloc (.cells #[.int .u8 a0, .int .u8 a1, .int .u8 a2, .int .u8 a3] 23)).alloc (.cells #[.int .u8 b0, .int .u8 b1, .int .u8 b2, .int .u8 b3, .int .u8 b4, .int .u8 b5, .int .u8 b6, .int .u8 b7, .int .u8 b8, .int .u8 b9, .int .u8 b10, .int .u8 b11, .int .u8 b12, .int .u8 b13, .int .u8 b14, .int .u8 b15] 31)).heap.size = w.heap.size + 1 + 1 := by simp
  rw [z1] at hb2
  rw [z2] at hc1
  clear hk1 hk2 hb1 hB1 hB2 z1 z2 tb hfa hfb hfc h0 h1 h2 h3 f0 f1 f2 f3 f4 f5 f6 f7 f8 f9 f10 f11 f12 f13 f14 f15 g0 g1 g2 g3 g4 g5 g6 g7 g8 g9 g10 g11 g12 g13 g14 g15
  go_enter Tryd.func9, Tryd.ntmps9
  go_wp2_with fail
  generalize ((w.alloc (.cells #[.int .u8 a0, .int .u8 a1, .int .u8 a2, .int .u8 a3] 23)).alloc (.cells #[.int .u8 b0, .int .u8 b1, .int .u8 b2, .int .u8 b3, .int .u8 b4, .int .u8 b5, .int .u8 b6, .int .u8 b7, .int .u8 b8, .int .u8 b9, .int .u8 b10, .int .u8 b11, .int .u8 b12, .int .u8 b13, .int .u8 b14, .int .u8 b15] 31)).alloc (.cells #[.int .u8 c0, .int .u8 c1, .int .u8 c2, .int .u8 c3, .int .u8 c4, .int .u8 c5, .int .u8 c6, .int .u8 c7, .int .u8 c8, .int .u8 c9, .int .u8 c10, .int .u8 c11, .int .u8 c12, .int .u8 c13, .int .u8 c14, .int .u8 c15] 31) = W3 at *
  refine (HT4.out _ hB3).mono ?_
  rintro e w1 ⟨rfl, hB⟩
  have hB4 := hB3.trans (hB.mono hB3.size)
  have ka := blk_on hk3 hB
  have kb := blk_on hb2 hB
  have kc := blk_on hc1 hB
  clear hk3 hb2 hc1 hB hB3 HT4
  go_wp2_with fail
  refine (HP4.out _).mono ?_
  rintro e w2 ⟨rfl, hB⟩
  have hB5 := hB4.trans (hB.mono hB4.size)
  have hB6 := hB5.alloc hB5.size (.cells #[.int .u8 a0, .int .u8 a1, .int .u8 a2, .int .u8 a3] 23)
  have hx := blk_new w2 (.cells #[.int .u8 a0, .int .u8 a1, .int .u8 a2, .int .u8 a3] 23)
  have ka2 := blk_alloc (blk_on ka hB) (.cells #[.int .u8 a0, .int .u8 a1, .int .u8 a2, .int .u8 a3] 23)
  have kb2 := blk_alloc (blk_on kb hB) (.cells #[.int .u8 a0, .int .u8 a1, .int .u8 a2, .int .u8 a3] 23)
  have kc2 := blk_alloc (blk_on kc hB) (.cells #[.int .u8 a0, .int .u8 a1, .int .u8 a2, .int .u8 a3] 23)
  have ux : (w2.alloc (.cells #[.int .u8 a0, .int .u8 a1, .int .u8 a2, .int .u8 a3] 23)).heap.size = w2.heap.size + 1 := by simp
  clear ka kb kc hB hB4 hB5 HP4
  have q0 : (w2.alloc (.cells #[.int .u8 a0, .int .u8 a1, .int .u8 a2, .int .u8 a3] 23)).cell? ⟨w.heap.size + 1, 0, none⟩ = some (.int .u8 b0) := blk_cell kb2 rfl
  have q1 : (w2.alloc (.cells #[.int .u8 a0, .int .u8 a1, .int .u8 a2, .int .u8 a3] 23)).cell? ⟨w.heap.size + 1, 1, none⟩ = some (.int .u8 b1) := blk_cell kb2 rfl
  have q2 : (w2.alloc (.cells #[.int .u8 a0, .int .u8 a1, .int .u8 a2, .int .u8 a3] 23)).cell? ⟨w.heap.size + 1, 2, none⟩ = some (.int .u8 b2) := blk_cell kb2 rfl
  have q3 : (w2.alloc (.cells #[.int .u8 a0, .int .u8 a1, .int .u8 a2, .int .u8 a3] 23)).cell? ⟨w.heap.size + 1, 3, none⟩ = some (.int .u8 b3) := blk_cell kb2 rfl
  have q4 : (w2.alloc (.cells #[.int .u8 a0, .int .u8 a1, .int .u8 a2, .int .u8 a3] 23)).cell? ⟨w.heap.size + 1, 4, none⟩ = some (.int .u8 b4) := blk_cell kb2 rfl
  have q5 : (w2.alloc (.cells #[.int .u8 a0, .int .u8 a1, .int .u8 a2, .int .u8 a3] 23)).cell? ⟨w.heap.size + 1, 5, none⟩ = some (.int .u8 b5) := blk_cell kb2 rfl
  have q6 : (w2.alloc (.cells #[.int .u8 a0, .int .u8 a1, .int .u8 a2, .int .u8 a3] 23)).cell? ⟨w.heap.size + 1, 6, none⟩ = some (.int .u8 b6) := blk_cell kb2 rfl
  have q7 : (w2.alloc (.cells #[.int .u8 a0, .int .u8 a1, .int .u8 a2, .int .u8 a3] 23)).cell? ⟨w.heap.size + 1, 7, none⟩ = some (.int .u8 b7) := blk_cell kb2 rfl
  have q8 : (w2.alloc (.cells #[.int .u8 a0, .int .u8 a1, .int .u8 a2, .int .u8 a3] 23)).cell? ⟨w.heap.size + 1, 8, none⟩ = some (.int .u8 b8) := blk_cell kb2 rfl
  have q9 : (w2.alloc (.cells #[.int .u8 a0, .int .u8 a1, .int .u8 a2, .int .u8 a3] 23)).cell? ⟨w.heap.size + 1, 9, none⟩ = some (.int .u8 b9) := blk_cell kb2 rfl
  have q10 : (w2.alloc (.cells #[.int .u8 a0, .int .u8 a1, .int .u8 a2, .int .u8 a3] 23)).cell? ⟨w.heap.size + 1, 10, none⟩ = some (.int .u8 b10) := blk_cell kb2 rfl
  have q11 : (w2.alloc (.cells #[.int .u8 a0, .int .u8 a1, .int .u8 a2, .int .u8 a3] 23)).cell? ⟨w.heap.size + 1, 11, none⟩ = some (.int .u8 b11) := blk_cell kb2 rfl
  have q12 : (w2.alloc (.cells #[.int .u8 a0, .int .u8 a1, .int .u8 a2, .int .u8 a3] 23)).cell? ⟨w.heap.size + 1, 12, none⟩ = some (.int .u8 b12) := blk_cell kb2 rfl
  have q13 : (w2.alloc (.cells #[.int .u8 a0, .int .u8 a1, .int .u8 a2, .int .u8 a3] 23)).cell? ⟨w.heap.size + 1, 13, none⟩ = some (.int .u8 b13) := blk_cell kb2 rfl
  have q14 : (w2.alloc (.cells #[.int .u8 a0, .int .u8 a1, .int .u8 a2, .int .u8 a3] 23)).cell? ⟨w.heap.size + 1, 14, none⟩ = some (.int .u8 b14) := blk_cell kb2 rfl
  have q15 : (w2.alloc (.cells #[.int .u8 a0, .int .u8 a1, .int .u8 a2, .int .u8 a3] 23)).cell? ⟨w.heap.size + 1, 15, none⟩ = some (.int .u8 b15) := blk_cell kb2 rfl
  go_wp2_with fail
  generalize w2.alloc (.cells #[.int .u8 a0, .int .u8 a1, .int .u8 a2, .int .u8 a3] 23) = W4 at *
  refine (HTB.out _ hB6).mono ?_
  rintro e w3 ⟨rfl, hB⟩
  have hB7 := hB6.trans (hB.mono hB6.size)
  have ka3 := blk_on ka2 hB
  have kb3 := blk_on kb2 hB
  have kc3 := blk_on kc2 hB
  have hx3 := blk_on hx hB
  clear ka2 kb2 kc2 hx hB hB6 ux q0 q1 q2 q3 q4 q5 q6 q7 q8 q9 q10 q11 q12 q13 q14 q15
  go_wp2_with fail
  refine (HP6.out _).mono ?_
  rintro e w4 ⟨rfl, hB⟩
  have hB8 := hB7.trans (hB.mono hB7.size)
  have hB9 := hB8.alloc hB8.size (.cells #[.int .u8 b0, .int .u8 b1, .int .u8 b2, .int .u8 b3, .int .u8 b4, .int .u8 b5, .int .u8 b6, .int .u8 b7, .int .u8 b8, .int .u8 b9, .int .u8 b10, .int .u8 b11, .int .u8 b12, .int .u8 b13, .int .u8 b14, .int .u8 b15] 31)
  have hy := blk_new w4 (.cells #[.int .u8 b0, .int .u8 b1, .int .u8 b2, .int .u8 b3, .int .u8 b4, .int .u8 b5, .int .u8 b6, .int .u8 b7, .int .u8 b8, .int .u8 b9, .int .u8 b10, .int .u8 b11, .int .u8 b12, .int .u8 b13, .int .u8 b14, .int .u8 b15] 31)
  have ka4 := blk_alloc (blk_on ka3 hB) (.cells #[.int .u8 b0, .int .u8 b1, .int .u8 b2, .int .u8 b3, .int .u8 b4, .int .u8 b5, .int .u8 b6, .int .u8 b7, .int .u8 b8, .int .u8 b9, .int .u8 b10, .int .u8 b11, .int .u8 b12, .int .u8 b13, .int .u8 b14, .int .u8 b15] 31)
  have kb4 := blk_alloc (blk_on kb3 hB) (.cells #[.int .u8 b0, .int .u8 b1, .int .u8 b2, .int .u8 b3, .int .u8 b4, .int .u8 b5, .int .u8 b6, .int .u8 b7, .int .u8 b8, .int .u8 b9, .int .u8 b10, .int .u8 b11, .int .u8 b12, .int .u8 b13, .int .u8 b14, .int .u8 b15] 31)
  have kc4 := blk_alloc (blk_on kc3 hB) (.cells #[.int .u8 b0, .int .u8 b1, .int .u8 b2, .int .u8 b3, .int .u8 b4, .int .u8 b5, .int .u8 b6, .int .u8 b7, .int .u8 b8, .int .u8 b9, .int .u8 b10, .int .u8 b11, .int .u8 b12, .int .u8 b13, .int .u8 b14, .int .u8 b15] 31)
  have hx4 := blk_alloc (blk_on hx3 hB) (.cells #[.int .u8 b0, .int .u8 b1, .int .u8 b2, .int .u8 b3, .int .u8 b4, .int .u8 b5, .int .u8 b6, .int .u8 b7, .int .u8 b8, .int .u8 b9, .int .u8 b10, .int .u8 b11, .int .u8 b12, .int .u8 b13, .int .u8 b14, .int .u8 b15] 31)
  clear ka3 kb3 kc3 hx3 hB hB7 hB8 HP6
  have HBW : Hid _ := hB9
  have HLA : Hid _ := fun y : Hi (w4.alloc (.cells #[.int .u8 b0, .int .u8 b1, .int .u8 b2, .int .u8 b3, .int .u8 b4, .int .u8 b5, .int .u8 b6, .int .u8 b7, .int .u8 b8, .int .u8 b9, .int .u8 b10, .int .u8 b11, .int .u8 b12, .int .u8 b13, .int .u8 b14, .int .u8 b15] 31)) => agg_load (t := 23) Tryd.isAgg23 Tryd.sizeOf23 rfl (CellsAt.of_blk (Hi.blk ka4 y))
  have HLX : Hid _ := fun y : Hi (w4.alloc (.cells #[.int .u8 b0, .int .u8 b1, .int .u8 b2, .int .u8 b3, .int .u8 b4, .int .u8 b5, .int .u8 b6, .int .u8 b7, .int .u8 b8, .int .u8 b9, .int .u8 b10, .int .u8 b11, .int .u8 b12, .int .u8 b13, .int .u8 b14, .int .u8 b15] 31)) => agg_load (t := 23) Tryd.isAgg23 Tryd.sizeOf23 rfl (CellsAt.of_blk (Hi.blk hx4 y))
  have HLB : Hid _ := fun y : Hi (w4.alloc (.cells #[.int .u8 b0, .int .u8 b1, .int .u8 b2, .int .u8 b3, .int .u8 b4, .int .u8 b5, .int .u8 b6, .int .u8 b7, .int .u8 b8, .int .u8 b9, .int .u8 b10, .int .u8 b11, .int .u8 b12, .int .u8 b13, .int .u8 b14, .int .u8 b15] 31)) => agg_load (t := 31) Tryd.isAgg31 Tryd.sizeOf31 rfl (CellsAt.of_blk (Hi.blk kb4 y))
  have HLC : Hid _ := fun y : Hi (w4.alloc (.cells #[.int .u8 b0, .int .u8 b1, .int .u8 b2, .int .u8 b3, .int .u8 b4, .int .u8 b5, .int .u8 b6, .int .u8 b7, .int .u8 b8, .int .u8 b9, .int .u8 b10, .int .u8 b11, .int .u8 b12, .int .u8 b13, .int .u8 b14, .int .u8 b15] 31)) => agg_load (t := 31) Tryd.isAgg31 Tryd.sizeOf31 rfl (CellsAt.of_blk (Hi.blk kc4 y))
  have HLY : Hid _ := fun y : Hi (w4.alloc (.cells #[.int .u8 b0, .int .u8 b1, .int .u8 b2, .int .u8 b3, .int .u8 b4, .int .u8 b5, .int .u8 b6, .int .u8 b7, .int .u8 b8, .int .u8 b9, .int .u8 b10, .int .u8 b11, .int .u8 b12, .int .u8 b13, .int .u8 b14, .int .u8 b15] 31)) => agg_load (t := 31) Tryd.isAgg31 Tryd.sizeOf31 rfl (CellsAt.of_blk (Hi.blk hy y))
  clear ka4 kb4 kc4 hx4 hy hB9
  go_wp2_with fail
  generalize w4.alloc (.cells #[.int .u8 b0, .int .u8 b1, .int .u8 b2, .int .u8 b3, .int .u8 b4, .int .u8 b5, .int .u8 b6, .int .u8 b7, .int .u8 b8, .int .u8 b9, .int .u8 b10, .int .u8 b11, .int .u8 b12, .int .u8 b13, .int .u8 b14, .int .u8 b15] 31) = W9 at *
  by_cases hbc : [b0, b1, b2, b3, b4, b5, b6, b7, b8, b9, b10, b11, b12, b13, b14, b15] = [c0, c1, c2, c3, c4, c5, c6, c7, c8, c9, c10, c11, c12, c13, c14, c15]
  · have hT := HI.out.2 hbc
    subst hT
    clear HI ec9997 ec9998
    simp only [List.cons.injEq, and_true] at hbc
    obtain ⟨rfl, rfl, rfl, rfl, rfl, rfl, rfl, rfl, rfl, rfl, rfl, rfl, rfl, rfl, rfl, rfl⟩ := hbc
    change Hid (∀ y : Hi W9, (Instr.loadAt 23 (.pointer (some ⟨w.heap.size, 0, none⟩))).run Tryd.prog y.W = .ok (.agg #[.int .u8 a0, .int .u8 a1, .int .u8 a2, .int .u8 a3]) y.W) at HLA
    change Hid (∀ y : Hi W9, (Instr.loadAt 23 (.pointer (some ⟨w2.heap.size, 0, none⟩))).run Tryd.prog y.W = .ok (.agg #[.int .u8 a0, .int .u8 a1, .int .u8 a2, .int .u8 a3]) y.W) at HLX
    change Hid (∀ y : Hi W9, (Instr.loadAt 31 (.pointer (some ⟨w.heap.size + 1, 0, none⟩))).run Tryd.prog y.W = .ok (.agg #[.int .u8 b0, .int .u8 b1, .int .u8 b2, .int .u8 b3, .int .u8 b4, .int .u8 b5, .int .u8 b6, .int .u8 b7, .int .u8 b8, .int .u8 b9, .int .u8 b10, .int .u8 b11, .int .u8 b12, .int .u8 b13, .int .u8 b14, .int .u8 b15]) y.W) at HLB
    change Hid (∀ y : Hi W9, (Instr.loadAt 31 (.pointer (some ⟨w.heap.size + 1 + 1, 0, none⟩))).run Tryd.prog y.W = .ok (.agg #[.int .u8 b0, .int .u8 b1, .int .u8 b2, .int .u8 b3, .int .u8 b4, .int .u8 b5, .int .u8 b6, .int .u8 b7, .int .u8 b8, .int .u8 b9, .int .u8 b10, .int .u8 b11, .int .u8 b12, .int .u8 b13, .int .u8 b14, .int .u8 b15]) y.W) at HLC
    change Hid (∀ y : Hi W9, (Instr.loadAt 31 (.pointer (some ⟨w4.heap.size, 0, none⟩))).run Tryd.prog y.W = .ok (.agg #[.int .u8 b0, .int .u8 b1, .int .u8 b2, .int .u8 b3, .int .u8 b4, .int .u8 b5, .int .u8 b6, .int .u8 b7, .int .u8 b8, .int .u8 b9, .int .u8 b10, .int .u8 b11, .int .u8 b12, .int .u8 b13, .int .u8 b14, .int .u8 b15]) y.W) at HLY
    generalize (#[.int .u8 b0, .int .u8 b1, .int .u8 b2, .int .u8 b3, .int .u8 b4, .int .u8 b5, .int .u8 b6, .int .u8 b7, .int .u8 b8, .int .u8 b9, .int .u8 b10, .int .u8 b11, .int .u8 b12, .int .u8 b13, .int .u8 b14, .int .u8 b15] : Array Value) = vb at *
    generalize (#[.int .u8 a0, .int .u8 a1, .int .u8 a2, .int .u8 a3] : Array Value) = va at *
    refine wp_region_hi (by kernel_rfl) (by kernel_rfl) ?_
    repeat (first | (go_big_quiet_want; refine hi_load (.tmp 3) 23 rfl rfl HLA.out ?_; simp only [Act.put, List.setIfInBounds_toArray, List.set_cons_zero, List.set_cons_succ]; go_big_quiet_on) | (go_big_quiet_want; refine hi_load (.tmp 4) 31 rfl rfl HLB.out ?_; simp only [Act.put, List.setIfInBounds_toArray, List.set_cons_zero, List.set_cons_succ]; go_big_quiet_on) | (go_big_quiet_want; refine hi_load (.tmp 5) 31 rfl rfl HLC.out ?_; simp only [Act.put, List.setIfInBounds_toArray, List.set_cons_zero, List.set_cons_succ]; go_big_quiet_on) | (go_big_quiet_want; refine hi_load (.tmp 7) 23 rfl rfl HLX.out ?_; simp only [Act.put, List.setIfInBounds_toArray, List.set_cons_zero, List.set_cons_succ]; go_big_quiet_on) | (go_big_quiet_want; refine hi_load (.tmp 10) 31 rfl rfl HLY.out ?_; simp only [Act.put, List.setIfInBounds_toArray, List.set_cons_zero, List.set_cons_succ]; go_big_quiet_on) | go_big_quiet_step (first | (go_at_call_of 20 (Value.agg vb); exact Hi.calls (HTB.out _ (HBW.out.trans ((Hi.below _).mono HBW.out.size)))) | (go_at_call 17; exact Hi.calls (HAW.out _ (HBW.out.trans ((Hi.below _).mono HBW.out.size))))))
    refine wpQuiet_nil ?_
    intro _ hw
    obtain ⟨y, rfl⟩ := hw
    go_wp2
    go_ret
    exact ⟨rfl, HBW.out.trans (y.below.mono HBW.out.size)⟩
  · have hT : ¬ TB = TC := fun h => hbc (HI.out.1 h)
    have hT2 : (TB == TC) = false := beq_eq_false_iff_ne.2 hT
    have hT3 := bytes_ne TB TC hT
    have ec1 := ec9997.out
    have ec2 := ec9998.out
    rw [decide_eq_false hbc] at ec1 ec2
    clear HI ec9997 ec9998 hbc
    change Hid (∀ y : Hi W9, (Instr.loadAt 23 (.pointer (some ⟨w.heap.size, 0, none⟩))).run Tryd.prog y.W = .ok (.agg #[.int .u8 a0, .int .u8 a1, .int .u8 a2, .int .u8 a3]) y.W) at HLA
    change Hid (∀ y : Hi W9, (Instr.loadAt 23 (.pointer (some ⟨w2.heap.size, 0, none⟩))).run Tryd.prog y.W = .ok (.agg #[.int .u8 a0, .int .u8 a1, .int .u8 a2, .int .u8 a3]) y.W) at HLX
    change Hid (∀ y : Hi W9, (Instr.loadAt 31 (.pointer (some ⟨w.heap.size + 1, 0, none⟩))).run Tryd.prog y.W = .ok (.agg #[.int .u8 b0, .int .u8 b1, .int .u8 b2, .int .u8 b3, .int .u8 b4, .int .u8 b5, .int .u8 b6, .int .u8 b7, .int .u8 b8, .int .u8 b9, .int .u8 b10, .int .u8 b11, .int .u8 b12, .int .u8 b13, .int .u8 b14, .int .u8 b15]) y.W) at HLB
    change Hid (∀ y : Hi W9, (Instr.loadAt 31 (.pointer (some ⟨w.heap.size + 1 + 1, 0, none⟩))).run Tryd.prog y.W = .ok (.agg #[.int .u8 c0, .int .u8 c1, .int .u8 c2, .int .u8 c3, .int .u8 c4, .int .u8 c5, .int .u8 c6, .int .u8 c7, .int .u8 c8, .int .u8 c9, .int .u8 c10, .int .u8 c11, .int .u8 c12, .int .u8 c13, .int .u8 c14, .int .u8 c15]) y.W) at HLC
    change Hid (∀ y : Hi W9, (Instr.loadAt 31 (.pointer (some ⟨w4.heap.size, 0, none⟩))).run Tryd.prog y.W = .ok (.agg #[.int .u8 b0, .int .u8 b1, .int .u8 b2, .int .u8 b3, .int .u8 b4, .int .u8 b5, .int .u8 b6, .int .u8 b7, .int .u8 b8, .int .u8 b9, .int .u8 b10, .int .u8 b11, .int .u8 b12, .int .u8 b13, .int .u8 b14, .int .u8 b15]) y.W) at HLY
    generalize (#[.int .u8 b0, .int .u8 b1, .int .u8 b2, .int .u8 b3, .int .u8 b4, .int .u8 b5, .int .u8 b6, .int .u8 b7, .int .u8 b8, .int .u8 b9, .int .u8 b10, .int .u8 b11, .int .u8 b12, .int .u8 b13, .int .u8 b14, .int .u8 b15] : Array Value) = vb at *
    generalize (#[.int .u8 c0, .int .u8 c1, .int .u8 c2, .int .u8 c3, .int .u8 c4, .int .u8 c5, .int .u8 c6, .int .u8 c7, .int .u8 c8, .int .u8 c9, .int .u8 c10, .int .u8 c11, .int .u8 c12, .int .u8 c13, .int .u8 c14, .int .u8 c15] : Array Value) = vc at *
    generalize (#[.int .u8 a0, .int .u8 a1, .int .u8 a2, .int .u8 a3] : Array Value) = va at *
    refine wp_region_hi (by kernel_rfl) (by kernel_rfl) ?_
    repeat (first | (go_big_quiet_want; refine hi_load (.tmp 3) 23 rfl rfl HLA.out ?_; simp only [Act.put, List.setIfInBounds_toArray, List.set_cons_zero, List.set_cons_succ]; go_big_quiet_on) | (go_big_quiet_want; refine hi_load (.tmp 4) 31 rfl rfl HLB.out ?_; simp only [Act.put, List.setIfInBounds_toArray, List.set_cons_zero, List.set_cons_succ]; go_big_quiet_on) | (go_big_quiet_want; refine hi_load (.tmp 5) 31 rfl rfl HLC.out ?_; simp only [Act.put, List.setIfInBounds_toArray, List.set_cons_zero, List.set_cons_succ]; go_big_quiet_on) | (go_big_quiet_want; refine hi_load (.tmp 7) 23 rfl rfl HLX.out ?_; simp only [Act.put, List.setIfInBounds_toArray, List.set_cons_zero, List.set_cons_succ]; go_big_quiet_on) | (go_big_quiet_want; refine hi_load (.tmp 10) 31 rfl rfl HLY.out ?_; simp only [Act.put, List.setIfInBounds_toArray, List.set_cons_zero, List.set_cons_succ]; go_big_quiet_on) | go_big_quiet_step (first | (go_at_call_of 20 (Value.agg vb); exact Hi.calls (HTB.out _ (HBW.out.trans ((Hi.below _).mono HBW.out.size)))) | (go_at_call_of 20 (Value.agg vc); exact Hi.calls (HTC.out _ (HBW.out.trans ((Hi.below _).mono HBW.out.size)))) | (go_at_call 17; exact Hi.calls (HAW.out _ (HBW.out.trans ((Hi.below _).mono HBW.out.size))))))
    refine wpQuiet_nil ?_
    intro _ hw
    obtain ⟨y, rfl⟩ := hw
    go_wp2
    go_ret
    exact ⟨rfl, HBW.out.trans (y.below.mono HBW.out.size)⟩

set_option maxRecDepth 100000 in
theorem open_addr6 {H : Type} {enc : TypeId × Value → H} {W : World} {v : Value} {d : DataW H} {p : List MemPlace} (h : DataW.Trod enc Tryd.prog W 0 (fun _ => true) true 31 v d p) :
    ∃ a0 a1 a2 a3 a4 a5 a6 a7 a8 a9 a10 a11 a12 a13 a14 a15 : Int, v = .agg #[.int .u8 a0, .int .u8 a1, .int .u8 a2, .int .u8 a3, .int .u8 a4, .int .u8 a5, .int .u8 a6, .int .u8 a7, .int .u8 a8, .int .u8 a9, .int .u8 a10, .int .u8 a11, .int .u8 a12, .int .u8 a13, .int .u8 a14, .int .u8 a15] ∧ (0 ≤ a0 ∧ a0 < 256) ∧ (0 ≤ a1 ∧ a1 < 256) ∧ (0 ≤ a2 ∧ a2 < 256) ∧ (0 ≤ a3 ∧ a3 < 256) ∧ (0 ≤ a4 ∧ a4 < 256) ∧ (0 ≤ a5 ∧ a5 < 256) ∧ (0 ≤ a6 ∧ a6 < 256) ∧ (0 ≤ a7 ∧ a7 < 256) ∧ (0 ≤ a8 ∧ a8 < 256) ∧ (0 ≤ a9 ∧ a9 < 256) ∧ (0 ≤ a10 ∧ a10 < 256) ∧ (0 ≤ a11 ∧ a11 < 256) ∧ (0 ≤ a12 ∧ a12 < 256) ∧ (0 ≤ a13 ∧ a13 < 256) ∧ (0 ≤ a14 ∧ a14 < 256) ∧ (0 ≤ a15 ∧ a15 < 256) := by
  obtain ⟨fuel, hf⟩ := h
  obtain ⟨zs, hl, hcs, hfit⟩ := cells_arr Tryd.underlying31 (by kernel_rfl) (by kernel_rfl) hf
  have hv := agg_of hcs (by simp; omega)
  match zs, hl with
  | [a0, a1, a2, a3, a4, a5, a6, a7, a8, a9, a10, a11, a12, a13, a14, a15], _ => exact ⟨a0, a1, a2, a3, a4, a5, a6, a7, a8, a9, a10, a11, a12, a13, a14, a15, hv, hfit _ (by simp), hfit _ (by simp), hfit _ (by simp), hfit _ (by simp), hfit _ (by simp), hfit _ (by simp), hfit _ (by simp), hfit _ (by simp), hfit _ (by simp), hfit _ (by simp), hfit _ (by simp), hfit _ (by simp), hfit _ (by simp), hfit _ (by simp), hfit _ (by simp), hfit _ (by simp)⟩

set_option maxRecDepth 100000 in
theorem addrBack_open {H : Type} {enc : TypeId × Value → H} {W : World} {base : Nat} (tb : Tabs W ∧ Tz W) (v0 v1 v2 : Value) {d0 d1 d2 : DataW H} {p0 p1 p2 : List MemPlace}
    (o0 : Value.okWide Tryd.prog W .any base 23 v0) (h0 : DataW.Trod enc Tryd.prog W 0 (fun _ => true) true 23 v0 d0 p0) (z0 : ∀ k ∈ d0.weights Tryd.prog 23, k ≤ reachBytes)
    (o1 : Value.okWide Tryd.prog W .any base 31 v1) (h1 : DataW.Trod enc Tryd.prog W 0 (fun _ => true) true 31 v1 d1 p1) (z1 : ∀ k ∈ d1.weights Tryd.prog 31, k ≤ reachBytes)
    (o2 : Value.okWide Tryd.prog W .any base 31 v2) (h2 : DataW.Trod enc Tryd.prog W 0 (fun _ => true) true 31 v2 d2 p2) (z2 : ∀ k ∈ d2.weights Tryd.prog 31, k ≤ reachBytes) :
    Calls Tryd.prog 9 #[v0, v1, v2] W fun e w' => e = .returned (.bool true) ∧ Below W.heap.size W w' := by
  obtain ⟨a0, a1, a2, a3, rfl, e0, e1, e2, e3⟩ := open_four h0
  obtain ⟨b0, b1, b2, b3, b4, b5, b6, b7, b8, b9, b10, b11, b12, b13, b14, b15, rfl, f0, f1, f2, f3, f4, f5, f6, f7, f8, f9, f10, f11, f12, f13, f14, f15⟩ := open_addr6 h1
  obtain ⟨c0, c1, c2, c3, c4, c5, c6, c7, c8, c9, c10, c11, c12, c13, c14, c15, rfl, g0, g1, g2, g3, g4, g5, g6, g7, g8, g9, g10, g11, g12, g13, g14, g15⟩ := open_addr6 h2
  exact addrBack_walk a0 a1 a2 a3 b0 b1 b2 b3 b4 b5 b6 b7 b8 b9 b10 b11 b12 b13 b14 b15 c0 c1 c2 c3 c4 c5 c6 c7 c8 c9 c10 c11 c12 c13 c14 c15 e0 e1 e2 e3 f0 f1 f2 f3 f4 f5 f6 f7 f8 f9 f10 f11 f12 f13 f14 f15 g0 g1 g2 g3 g4 g5 g6 g7 g8 g9 g10 g11 g12 g13 g14 g15 W tb

end Go.Proofs.YtiigcilclblblaaDoor
