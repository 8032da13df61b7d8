/-
  The statement AddrBack for every argument.
-/
import Derived.Test.YtiigcilclblblaaDoorRc1
import Derived.Test.YtiigcilclblblaaDoorRa4
namespace Go.Proofs.YtiigcilclblblaaDoor
open Go Go.RowKit Go.ChangeShapes Go.WideShapes Go.ChangeAt
set_option linter.unusedVariables false
set_option linter.unusedSimpArgs false

theorem eq_arr16 (d : Nat) (zs ys : List Int) (h : FitB zs) (g : FitB ys) (hl : zs.length = 16) (gl : ys.length = 16) (W : World) :
    (Op.equalIn (d + 2) 31 (.agg (zs.map (fun z => Value.int .u8 z)).toArray) (.agg (ys.map (fun z => Value.int .u8 z)).toArray)).run Tryd.prog W = .ok (decide (zs = ys)) W := by
  have := run_equalIn_bytes (P := Tryd.prog) W d 31 5 16 Tryd.underlying31 Tryd.underlying5 (fun w => by simp [go_sem]) (zs.map (fun z => UInt8.ofNat z.toNat)) (ys.map (fun z => UInt8.ofNat z.toNat)) (by simpa using hl) (by simpa using gl)
  rw [bytes_inj zs ys h g] at this
  have e1 := cells_back zs h
  have e2 := cells_back ys g
  rw [← e1, ← e2]
  exact this

theorem back4 (a0 a1 a2 a3 : Int) (h0 : Byte a0) (h1 : Byte a1) (h2 : Byte a2) (h3 : Byte a3) (W : World) :
    Calls Tryd.prog 13 #[strV (text4 [a0, a1, a2, a3])] W fun e w' => e = .returned (.tuple #[.agg #[.int .u8 a0, .int .u8 a1, .int .u8 a2, .int .u8 a3], .int .i64 0, .int .i64 0]) ∧ Below W.heap.size W w' := by
  have hl : (text4 [a0, a1, a2, a3]).length ≤ 4004 := by
    rw [← tx4_all]
    have hk : ∀ k, k < 4 → Byte ([a0, a1, a2, a3][k]?.getD 0) := by
      intro k hk
      match k, hk with
      | 0, _ => exact h0
      | 1, _ => exact h1
      | 2, _ => exact h2
      | 3, _ => exact h3
    exact tx4_len hk 4 (by omega)
  have h := parse4_calls ⟨(text4 [a0, a1, a2, a3]).toArray⟩ (by show (text4 [a0, a1, a2, a3]).toArray.size ≤ _; rw [List.size_toArray]; omega) W
  have e : parse4 (⟨(text4 [a0, a1, a2, a3]).toArray⟩ : ByteArray).data.toList = ([a0, a1, a2, a3], 0, 0) := by
    show parse4 (text4 [a0, a1, a2, a3]).toArray.toList = _
    rw [List.toList_toArray]
    exact parse_text4 a0 a1 a2 a3 h0 h1 h2 h3
  rw [e] at h
  exact h

theorem grps_fit (b0 b1 b2 b3 b4 b5 b6 b7 b8 b9 b10 b11 b12 b13 b14 b15 : Int) (f0 : 0 ≤ b0 ∧ b0 < 256) (f1 : 0 ≤ b1 ∧ b1 < 256) (f2 : 0 ≤ b2 ∧ b2 < 256) (f3 : 0 ≤ b3 ∧ b3 < 256) (f4 : 0 ≤ b4 ∧ b4 < 256) (f5 : 0 ≤ b5 ∧ b5 < 256) (f6 : 0 ≤ b6 ∧ b6 < 256) (f7 : 0 ≤ b7 ∧ b7 < 256) (f8 : 0 ≤ b8 ∧ b8 < 256) (f9 : 0 ≤ b9 ∧ b9 < 256) (f10 : 0 ≤ b10 ∧ b10 < 256) (f11 : 0 ≤ b11 ∧ b11 < 256) (f12 : 0 ≤ b12 ∧ b12 < 256) (f13 : 0 ≤ b13 ∧ b13 < 256) (f14 : 0 ≤ b14 ∧ b14 < 256) (f15 : 0 ≤ b15 ∧ b15 < 256) : ∀ x ∈ [b0 * 256 + b1, b2 * 256 + b3, b4 * 256 + b5, b6 * 256 + b7, b8 * 256 + b9, b10 * 256 + b11, b12 * 256 + b13, b14 * 256 + b15], 0 ≤ x ∧ x < 65536 := by
  intro x hx
  simp only [List.mem_cons, List.not_mem_nil, or_false] at hx
  rcases hx with rfl | rfl | rfl | rfl | rfl | rfl | rfl | rfl <;> omega
theorem byt_groups (b0 b1 b2 b3 b4 b5 b6 b7 b8 b9 b10 b11 b12 b13 b14 b15 : Int) (f0 : 0 ≤ b0 ∧ b0 < 256) (f1 : 0 ≤ b1 ∧ b1 < 256) (f2 : 0 ≤ b2 ∧ b2 < 256) (f3 : 0 ≤ b3 ∧ b3 < 256) (f4 : 0 ≤ b4 ∧ b4 < 256) (f5 : 0 ≤ b5 ∧ b5 < 256) (f6 : 0 ≤ b6 ∧ b6 < 256) (f7 : 0 ≤ b7 ∧ b7 < 256) (f8 : 0 ≤ b8 ∧ b8 < 256) (f9 : 0 ≤ b9 ∧ b9 < 256) (f10 : 0 ≤ b10 ∧ b10 < 256) (f11 : 0 ≤ b11 ∧ b11 < 256) (f12 : 0 ≤ b12 ∧ b12 < 256) (f13 : 0 ≤ b13 ∧ b13 < 256) (f14 : 0 ≤ b14 ∧ b14 < 256) (f15 : 0 ≤ b15 ∧ b15 < 256) : byt [b0 * 256 + b1, b2 * 256 + b3, b4 * 256 + b5, b6 * 256 + b7, b8 * 256 + b9, b10 * 256 + b11, b12 * 256 + b13, b14 * 256 + b15] = [b0, b1, b2, b3, b4, b5, b6, b7, b8, b9, b10, b11, b12, b13, b14, b15] := by
  have hd : ∀ x y : Int, 0 ≤ x ∧ x < 256 → 0 ≤ y ∧ y < 256 → (x * 256 + y) / 256 = x ∧ (x * 256 + y) % 256 = y := fun x y hx hy => by omega
  simp only [byt, List.flatMap_cons, List.flatMap_nil, List.cons_append, List.nil_append, List.append_nil]
  rw [(hd b0 b1 f0 f1).1, (hd b0 b1 f0 f1).2]
  rw [(hd b2 b3 f2 f3).1, (hd b2 b3 f2 f3).2]
  rw [(hd b4 b5 f4 f5).1, (hd b4 b5 f4 f5).2]
  rw [(hd b6 b7 f6 f7).1, (hd b6 b7 f6 f7).2]
  rw [(hd b8 b9 f8 f9).1, (hd b8 b9 f8 f9).2]
  rw [(hd b10 b11 f10 f11).1, (hd b10 b11 f10 f11).2]
  rw [(hd b12 b13 f12 f13).1, (hd b12 b13 f12 f13).2]
  rw [(hd b14 b15 f14 f15).1, (hd b14 b15 f14 f15).2]
theorem own_len (G : List Int) (hl : G.length = 8) : (own6 G).length ≤ 202 := by
  unfold own6
  split
  · have := jn_len G (by omega); omega
  · have h1 := jn_len (G.take (gapK (zb G) 8).1) (by rw [List.length_take]; omega)
    have h2 := jn_len (G.drop (gapK (zb G) 8).2.1) (by rw [List.length_drop]; omega)
    simp only [List.length_append, List.length_cons, List.length_nil]
    omega
theorem back6 (b0 b1 b2 b3 b4 b5 b6 b7 b8 b9 b10 b11 b12 b13 b14 b15 : Int) (f0 : 0 ≤ b0 ∧ b0 < 256) (f1 : 0 ≤ b1 ∧ b1 < 256) (f2 : 0 ≤ b2 ∧ b2 < 256) (f3 : 0 ≤ b3 ∧ b3 < 256) (f4 : 0 ≤ b4 ∧ b4 < 256) (f5 : 0 ≤ b5 ∧ b5 < 256) (f6 : 0 ≤ b6 ∧ b6 < 256) (f7 : 0 ≤ b7 ∧ b7 < 256) (f8 : 0 ≤ b8 ∧ b8 < 256) (f9 : 0 ≤ b9 ∧ b9 < 256) (f10 : 0 ≤ b10 ∧ b10 < 256) (f11 : 0 ≤ b11 ∧ b11 < 256) (f12 : 0 ≤ b12 ∧ b12 < 256) (f13 : 0 ≤ b13 ∧ b13 < 256) (f14 : 0 ≤ b14 ∧ b14 < 256) (f15 : 0 ≤ b15 ∧ b15 < 256) (W : World) :
    Calls Tryd.prog 18 #[strV (own6 [b0 * 256 + b1, b2 * 256 + b3, b4 * 256 + b5, b6 * 256 + b7, b8 * 256 + b9, b10 * 256 + b11, b12 * 256 + b13, b14 * 256 + b15])] W fun e w' => e = .returned (.tuple #[.agg #[.int .u8 b0, .int .u8 b1, .int .u8 b2, .int .u8 b3, .int .u8 b4, .int .u8 b5, .int .u8 b6, .int .u8 b7, .int .u8 b8, .int .u8 b9, .int .u8 b10, .int .u8 b11, .int .u8 b12, .int .u8 b13, .int .u8 b14, .int .u8 b15], .int .i64 0, .int .i64 0]) ∧ Below W.heap.size W w' := by
  have hl := own_len [b0 * 256 + b1, b2 * 256 + b3, b4 * 256 + b5, b6 * 256 + b7, b8 * 256 + b9, b10 * 256 + b11, b12 * 256 + b13, b14 * 256 + b15] rfl
  have h := parse6_calls ⟨(own6 [b0 * 256 + b1, b2 * 256 + b3, b4 * 256 + b5, b6 * 256 + b7, b8 * 256 + b9, b10 * 256 + b11, b12 * 256 + b13, b14 * 256 + b15]).toArray⟩ (by show (own6 [b0 * 256 + b1, b2 * 256 + b3, b4 * 256 + b5, b6 * 256 + b7, b8 * 256 + b9, b10 * 256 + b11, b12 * 256 + b13, b14 * 256 + b15]).toArray.size ≤ _; rw [List.size_toArray]; omega) W
  have e : parse6 (⟨(own6 [b0 * 256 + b1, b2 * 256 + b3, b4 * 256 + b5, b6 * 256 + b7, b8 * 256 + b9, b10 * 256 + b11, b12 * 256 + b13, b14 * 256 + b15]).toArray⟩ : ByteArray).data.toList = ([b0, b1, b2, b3, b4, b5, b6, b7, b8, b9, b10, b11, b12, b13, b14, b15], 0, 0) := by
    show parse6 (own6 [b0 * 256 + b1, b2 * 256 + b3, b4 * 256 + b5, b6 * 256 + b7, b8 * 256 + b9, b10 * 256 + b11, b12 * 256 + b13, b14 * 256 + b15]).toArray.toList = _
    rw [List.toList_toArray, parse_own6 _ (grps_fit b0 b1 b2 b3 b4 b5 b6 b7 b8 b9 b10 b11 b12 b13 b14 b15 f0 f1 f2 f3 f4 f5 f6 f7 f8 f9 f10 f11 f12 f13 f14 f15) rfl, byt_groups b0 b1 b2 b3 b4 b5 b6 b7 b8 b9 b10 b11 b12 b13 b14 b15 f0 f1 f2 f3 f4 f5 f6 f7 f8 f9 f10 f11 f12 f13 f14 f15]
  rw [e] at h
  exact h
theorem own_inj (b0 b1 b2 b3 b4 b5 b6 b7 b8 b9 b10 b11 b12 b13 b14 b15 c0 c1 c2 c3 c4 c5 c6 c7 c8 c9 c10 c11 c12 c13 c14 c15 : Int) (f0 : 0 ≤ b0 ∧ b0 < 256) (f1 : 0 ≤ b1 ∧ b1 < 256) (f2 : 0 ≤ b2 ∧ b2 < 256) (f3 : 0 ≤ b3 ∧ b3 < 256) (f4 : 0 ≤ b4 ∧ b4 < 256) (f5 : 0 ≤ b5 ∧ b5 < 256) (f6 : 0 ≤ b6 ∧ b6 < 256) (f7 : 0 ≤ b7 ∧ b7 < 256) (f8 : 0 ≤ b8 ∧ b8 < 256) (f9 : 0 ≤ b9 ∧ b9 < 256) (f10 : 0 ≤ b10 ∧ b10 < 256) (f11 : 0 ≤ b11 ∧ b11 < 256) (f12 : 0 ≤ b12 ∧ b12 < 256) (f13 : 0 ≤ b13 ∧ b13 < 256) (f14 : 0 ≤ b14 ∧ b14 < 256) (f15 : 0 ≤ b15 ∧ b15 < 256) (g0 : 0 ≤ c0 ∧ c0 < 256) (g1 : 0 ≤ c1 ∧ c1 < 256) (g2 : 0 ≤ c2 ∧ c2 < 256) (g3 : 0 ≤ c3 ∧ c3 < 256) (g4 : 0 ≤ c4 ∧ c4 < 256) (g5 : 0 ≤ c5 ∧ c5 < 256) (g6 : 0 ≤ c6 ∧ c6 < 256) (g7 : 0 ≤ c7 ∧ c7 < 256) (g8 : 0 ≤ c8 ∧ c8 < 256) (g9 : 0 ≤ c9 ∧ c9 < 256) (g10 : 0 ≤ c10 ∧ c10 < 256) (g11 : 0 ≤ c11 ∧ c11 < 256) (g12 : 0 ≤ c12 ∧ c12 < 256) (g13 : 0 ≤ c13 ∧ c13 < 256) (g14 : 0 ≤ c14 ∧ c14 < 256) (g15 : 0 ≤ c15 ∧ c15 < 256) : own6 [b0 * 256 + b1, b2 * 256 + b3, b4 * 256 + b5, b6 * 256 + b7, b8 * 256 + b9, b10 * 256 + b11, b12 * 256 + b13, b14 * 256 + b15] = own6 [c0 * 256 + c1, c2 * 256 + c3, c4 * 256 + c5, c6 * 256 + c7, c8 * 256 + c9, c10 * 256 + c11, c12 * 256 + c13, c14 * 256 + c15] ↔ [b0, b1, b2, b3, b4, b5, b6, b7, b8, b9, b10, b11, b12, b13, b14, b15] = [c0, c1, c2, c3, c4, c5, c6, c7, c8, c9, c10, c11, c12, c13, c14, c15] := by
  constructor
  · intro h
    have h1 := parse_own6 _ (grps_fit b0 b1 b2 b3 b4 b5 b6 b7 b8 b9 b10 b11 b12 b13 b14 b15 f0 f1 f2 f3 f4 f5 f6 f7 f8 f9 f10 f11 f12 f13 f14 f15) rfl
    have h2 := parse_own6 _ (grps_fit c0 c1 c2 c3 c4 c5 c6 c7 c8 c9 c10 c11 c12 c13 c14 c15 g0 g1 g2 g3 g4 g5 g6 g7 g8 g9 g10 g11 g12 g13 g14 g15) rfl
    rw [h, h2, byt_groups b0 b1 b2 b3 b4 b5 b6 b7 b8 b9 b10 b11 b12 b13 b14 b15 f0 f1 f2 f3 f4 f5 f6 f7 f8 f9 f10 f11 f12 f13 f14 f15, byt_groups c0 c1 c2 c3 c4 c5 c6 c7 c8 c9 c10 c11 c12 c13 c14 c15 g0 g1 g2 g3 g4 g5 g6 g7 g8 g9 g10 g11 g12 g13 g14 g15] at h1
    exact (Prod.mk.inj h1).1.symm
  · intro h
    simp only [List.cons.injEq, and_true] at h
    obtain ⟨rfl, rfl, rfl, rfl, rfl, rfl, rfl, rfl, rfl, rfl, rfl, rfl, rfl, rfl, rfl, rfl⟩ := h
    rfl

end Go.Proofs.YtiigcilclblblaaDoor
