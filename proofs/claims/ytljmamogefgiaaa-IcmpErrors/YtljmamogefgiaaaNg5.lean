/-
  IcmpErrors.
-/
import Derived.Test.YtljmamogefgiaaaNg4
namespace Go.Proofs.Ytljmamogefgiaaa
open Go Go.RowKit Go.Shelf
set_option linter.unusedVariables false
set_option linter.unusedSimpArgs false

def e4 (k c : Int) : Int := if k = 4 ∨ k = 5 ∨ k = 6 ∨ (k = 3 ∧ c ≠ 4) then 0 else 72
def m4 (k c r : Int) (zs : List Int) : Msg := if k = 4 then ⟨3, 4, r, zs.take 548⟩ else if k = 5 then ⟨11, c, r, zs.take 548⟩ else if k = 6 then ⟨12, c, r, zs.take 548⟩ else if k = 3 ∧ c ≠ 4 then ⟨3, c, r, zs.take 548⟩ else ⟨0, 0, 0, []⟩
def e6 (k : Int) : Int := if 3 ≤ k ∧ k ≤ 6 then 0 else 72
def m6 (k c r : Int) (zs : List Int) : Msg := if k = 3 then ⟨1, c, r, zs.take 1232⟩ else if k = 4 then ⟨2, c, r, zs.take 1232⟩ else if k = 5 then ⟨3, c, r, zs.take 1232⟩ else if k = 6 then ⟨4, c, r, zs.take 1232⟩ else ⟨0, 0, 0, []⟩
theorem kind_cases (k : Int) : k = 3 ∨ k = 4 ∨ k = 5 ∨ k = 6 ∨ ¬ (3 ≤ k ∧ k ≤ 6) := by omega
theorem kk4 {k c r : Int} {zs : List Int} (h : e4 k c = 0) : k4 (m4 k c r zs).ty (m4 k c r zs).code = k := by
  unfold e4 at h
  rcases kind_cases k with rfl | rfl | rfl | rfl | hk
  · by_cases hc : c = 4
    · subst hc
      simp at h
    · simp [m4, k4, hc]
  · simp [m4, k4]
  · simp [m4, k4]
  · simp [m4, k4]
  · rw [if_neg (by omega)] at h
    exact absurd h (by decide)
theorem kk6 {k c r : Int} {zs : List Int} (h : e6 k = 0) : k6 (m6 k c r zs).ty = k := by
  unfold e6 at h
  rcases kind_cases k with rfl | rfl | rfl | rfl | hk
  · simp [m6, k6]
  · simp [m6, k6]
  · simp [m6, k6]
  · simp [m6, k6]
  · rw [if_neg hk] at h
    exact absurd h (by decide)
theorem Error4_any (kind code rest : Int) (fc : 0 ≤ code ∧ code ≤ 255) (fr : 0 ≤ rest ∧ rest ≤ 4294967295) (v : Value) (zs : List Int) (w : World) (h : RowC w v zs) :
    Calls Try.prog 29 #[.int .i64 kind, .int .u8 code, .int .u32 rest, v] w fun e w' => ErrI (e4 kind code) (m4 kind code rest zs) w e w' := by
  rcases kind_cases kind with rfl | rfl | rfl | rfl | hk
  · by_cases hc : code = 4
    · have a1 : e4 3 code = 72 := by simp [e4, hc]
      have a2 : m4 3 code rest zs = ⟨0, 0, 0, []⟩ := by simp [m4, hc]
      rw [a1, a2]
      exact Error4_un4 code rest fc fr hc v zs w h
    · have a1 : e4 3 code = 0 := by simp [e4, hc]
      have a2 : m4 3 code rest zs = ⟨3, code, rest, zs.take 548⟩ := by simp [m4, hc]
      rw [a1, a2]
      exact Error4_un code rest fc fr hc v zs w h
  · exact Error4_big code rest fc fr v zs w h
  · exact Error4_time code rest fc fr v zs w h
  · exact Error4_param code rest fc fr v zs w h
  · have a1 : e4 kind code = 72 := if_neg (by omega)
    have a2 : m4 kind code rest zs = ⟨0, 0, 0, []⟩ := by
      unfold m4
      rw [if_neg (by omega), if_neg (by omega), if_neg (by omega), if_neg (by omega)]
    rw [a1, a2]
    exact Error4_no kind code rest fc fr (by omega) v zs w h
theorem Error6_any (kind code rest : Int) (fc : 0 ≤ code ∧ code ≤ 255) (fr : 0 ≤ rest ∧ rest ≤ 4294967295) (v : Value) (zs : List Int) (w : World) (h : RowC w v zs) :
    Calls Try.prog 31 #[.int .i64 kind, .int .u8 code, .int .u32 rest, v] w fun e w' => ErrI (e6 kind) (m6 kind code rest zs) w e w' := by
  rcases kind_cases kind with rfl | rfl | rfl | rfl | hk
  · exact Error6_un code rest fc fr v zs w h
  · exact Error6_big code rest fc fr v zs w h
  · exact Error6_time code rest fc fr v zs w h
  · exact Error6_param code rest fc fr v zs w h
  · have a1 : e6 kind = 72 := if_neg hk
    have a2 : m6 kind code rest zs = ⟨0, 0, 0, []⟩ := by
      unfold m6
      rw [if_neg (by omega), if_neg (by omega), if_neg (by omega), if_neg (by omega)]
    rw [a1, a2]
    exact Error6_no kind code rest fc fr (by omega) v zs w h
theorem RError4_any (kind code rest : Int) (fc : 0 ≤ code ∧ code ≤ 255) (fr : 0 ≤ rest ∧ rest ≤ 4294967295) (v : Value) (zs : List Int) (w : World) (h : RowC w v zs) :
    Calls Try.prog 30 #[.int .i64 kind, .int .u8 code, .int .u32 rest, v] w fun e w' => ErrI (e4 kind code) (m4 kind code rest zs) w e w' := by
  rcases kind_cases kind with rfl | rfl | rfl | rfl | hk
  · by_cases hc : code = 4
    · have a1 : e4 3 code = 72 := by simp [e4, hc]
      have a2 : m4 3 code rest zs = ⟨0, 0, 0, []⟩ := by simp [m4, hc]
      rw [a1, a2]
      exact RError4_un4 code rest fc fr hc v zs w h
    · have a1 : e4 3 code = 0 := by simp [e4, hc]
      have a2 : m4 3 code rest zs = ⟨3, code, rest, zs.take 548⟩ := by simp [m4, hc]
      rw [a1, a2]
      exact RError4_un code rest fc fr hc v zs w h
  · exact RError4_big code rest fc fr v zs w h
  · exact RError4_time code rest fc fr v zs w h
  · exact RError4_param code rest fc fr v zs w h
  · have a1 : e4 kind code = 72 := if_neg (by omega)
    have a2 : m4 kind code rest zs = ⟨0, 0, 0, []⟩ := by
      unfold m4
      rw [if_neg (by omega), if_neg (by omega), if_neg (by omega), if_neg (by omega)]
    rw [a1, a2]
    exact RError4_no kind code rest fc fr hk v zs w h
theorem RError6_any (kind code rest : Int) (fc : 0 ≤ code ∧ code ≤ 255) (fr : 0 ≤ rest ∧ rest ≤ 4294967295) (v : Value) (zs : List Int) (w : World) (h : RowC w v zs) :
    Calls Try.prog 32 #[.int .i64 kind, .int .u8 code, .int .u32 rest, v] w fun e w' => ErrI (e6 kind) (m6 kind code rest zs) w e w' := by
  rcases kind_cases kind with rfl | rfl | rfl | rfl | hk
  · exact RError6_un code rest fc fr v zs w h
  · exact RError6_big code rest fc fr v zs w h
  · exact RError6_time code rest fc fr v zs w h
  · exact RError6_param code rest fc fr v zs w h
  · have a1 : e6 kind = 72 := if_neg hk
    have a2 : m6 kind code rest zs = ⟨0, 0, 0, []⟩ := by
      unfold m6
      rw [if_neg (by omega), if_neg (by omega), if_neg (by omega), if_neg (by omega)]
    rw [a1, a2]
    exact RError6_no kind code rest fc fr hk v zs w h
set_option maxHeartbeats 8000000 in
set_option maxRecDepth 100000 in
theorem icmpErrors_walk (kind code rest : Int) (fc : 0 ≤ code ∧ code ≤ 255) (fr : 0 ≤ rest ∧ rest ≤ 4294967295) (v : Value) (zs0 : List Int) (w : World) (h : RowC w v zs0) :
    Calls Try.prog 6 #[.int .i64 kind, .int .u8 code, .int .u32 rest, v] w fun e w' => e = .returned (.bool true) ∧ Below w.heap.size w w' := by
  obtain ⟨u, hu, hcut⟩ := cut_any v zs0 w h
  generalize zs0.take 70000 = zs at *
  have M1 : Hid (∀ W, Below w.heap.size w W → Calls Try.prog 29 #[.int .i64 kind, .int .u8 code, .int .u32 rest, u] W fun e w' => ErrI (e4 kind code) (m4 kind code rest zs) W e w') := fun W hW => Error4_any kind code rest fc fr u zs W (hu.on hW)
  have M2 : Hid (∀ W, Below w.heap.size w W → Calls Try.prog 30 #[.int .i64 kind, .int .u8 code, .int .u32 rest, u] W fun e w' => ErrI (e4 kind code) (m4 kind code rest zs) W e w') := fun W hW => RError4_any kind code rest fc fr u zs W (hu.on hW)
  have M3 : Hid (∀ W, Below w.heap.size w W → Calls Try.prog 31 #[.int .i64 kind, .int .u8 code, .int .u32 rest, u] W fun e w' => ErrI (e6 kind) (m6 kind code rest zs) W e w') := fun W hW => Error6_any kind code rest fc fr u zs W (hu.on hW)
  have M4 : Hid (∀ W, Below w.heap.size w W → Calls Try.prog 32 #[.int .i64 kind, .int .u8 code, .int .u32 rest, u] W fun e w' => ErrI (e6 kind) (m6 kind code rest zs) W e w') := fun W hW => RError6_any kind code rest fc fr u zs W (hu.on hW)
  unfold ErrI at M1 M2 M3 M4
  have K4 : Hid (e4 kind code = 0 → k4 (m4 kind code rest zs).ty (m4 kind code rest zs).code = kind) := fun h => kk4 h
  have K6 : Hid (e6 kind = 0 → k6 (m6 kind code rest zs).ty = kind) := fun h => kk6 h
  generalize e4 kind code = er4 at *
  generalize e6 kind = er6 at *
  generalize m4 kind code rest zs = n4 at *
  generalize m6 kind code rest zs = n6 at *
  have HCUT : Hid _ := hcut
  obtain ⟨av, cv, rfl, _⟩ := h.val
  obtain ⟨au, cu, rfl, _⟩ := hu.val
  have hx0 : Below w.heap.size w w := Below.refl _ _
  have q3 : (er4 != er4) = false := by simp
  have q4 : (er6 != er6) = false := by simp
  have qk : (kind != kind) = false := by simp
  clear hcut h hu
  go_enter Try.func6, Try.ntmps6
  go_wp2_with fail
  refine Calls.mono (HCUT.out _) ?_
  rintro _ w0 ⟨rfl, hw0⟩
  obtain rfl : w = w0 := hw0.symm
  clear hw0
  go_wp2_with fail
  refine Calls.mono (M1.out _ hx0) ?_
  rintro _ w1 ⟨d1, rfl, hd1, hb1⟩
  obtain ⟨w2, hst1, b1, hc1⟩ := box_new Try.sizeOf26 w1 [.int .u8 0, .int .u8 0, .int .u32 0, .slice none 0 0] rfl d1 hd1.len hd1.one
  have hy1 := hb1.trans (hc1.mono hb1.size)
  have hx2 := hx0.trans (hy1.mono hx0.size)
  have D1 : Hid (MsgC w2 d1 n4) := hd1.on hc1
  have B1 : Hid _ := b1
  have HST1 : Hid _ := hst1
  have L1 : Hid _ := hd1.len
  have Y1 : Hid _ := hy1
  clear hd1 hb1 hc1 hst1 b1 hy1 M1
  go_wp2_with first
    | ((with_reducible show wpList _ _ _ _ _ _); refine arm_store rfl (.tmp 9) (.tmp 25) 26 rfl rfl rfl HST1.out ?_)
  refine Calls.mono (M2.out _ hx2) ?_
  rintro _ w3 ⟨d3, rfl, hd3, hb3⟩
  obtain ⟨w4, hst3, b3, hc3⟩ := box_new Try.sizeOf26 w3 [.int .u8 0, .int .u8 0, .int .u32 0, .slice none 0 0] rfl d3 hd3.len hd3.one
  have hy3 := hb3.trans (hc3.mono hb3.size)
  have hx4 := hx2.trans (hy3.mono hx2.size)
  have D3 : Hid (MsgC w4 d3 n4) := hd3.on hc3
  have B3 : Hid _ := b3
  have HST3 : Hid _ := hst3
  have L3 : Hid _ := hd3.len
  have Y3 : Hid _ := hy3
  clear hd3 hb3 hc3 hst3 b3 hy3 M2
  go_wp2_with first
    | ((with_reducible show wpList _ _ _ _ _ _); refine arm_store rfl (.tmp 11) (.tmp 33) 26 rfl rfl rfl HST3.out ?_)
  refine Calls.mono (M3.out _ hx4) ?_
  rintro _ w5 ⟨d5, rfl, hd5, hb5⟩
  obtain ⟨w6, hst5, b5, hc5⟩ := box_new Try.sizeOf26 w5 [.int .u8 0, .int .u8 0, .int .u32 0, .slice none 0 0] rfl d5 hd5.len hd5.one
  have hy5 := hb5.trans (hc5.mono hb5.size)
  have hx6 := hx4.trans (hy5.mono hx4.size)
  have D5 : Hid (MsgC w6 d5 n6) := hd5.on hc5
  have B5 : Hid _ := b5
  have HST5 : Hid _ := hst5
  have L5 : Hid _ := hd5.len
  have Y5 : Hid _ := hy5
  clear hd5 hb5 hc5 hst5 b5 hy5 M3
  go_wp2_with first
    | ((with_reducible show wpList _ _ _ _ _ _); refine arm_store rfl (.tmp 13) (.tmp 41) 26 rfl rfl rfl HST5.out ?_)
  refine Calls.mono (M4.out _ hx6) ?_
  rintro _ w7 ⟨d7, rfl, hd7, hb7⟩
  obtain ⟨w8, hst7, b7, hc7⟩ := box_new Try.sizeOf26 w7 [.int .u8 0, .int .u8 0, .int .u32 0, .slice none 0 0] rfl d7 hd7.len hd7.one
  have hy7 := hb7.trans (hc7.mono hb7.size)
  have hx8 := hx6.trans (hy7.mono hx6.size)
  have z5 := Y5.out.trans (hy7.mono Y5.out.size)
  have z3 := Y3.out.trans (z5.mono Y3.out.size)
  have P1 : Hid (∀ W, Below w8.heap.size w8 W → (Instr.loadAt 26 (.pointer (some ⟨w1.heap.size, 0, none⟩))).run Try.prog W = .ok (.agg d1.toArray) W) := fun W hW => agg_load Try.isAgg26 Try.sizeOf26 L1.out (CellsAt.of_blk (blk_on (blk_on B1.out z3) hW))
  have P3 : Hid (∀ W, Below w8.heap.size w8 W → (Instr.loadAt 26 (.pointer (some ⟨w3.heap.size, 0, none⟩))).run Try.prog W = .ok (.agg d3.toArray) W) := fun W hW => agg_load Try.isAgg26 Try.sizeOf26 L3.out (CellsAt.of_blk (blk_on (blk_on B3.out z5) hW))
  have P5 : Hid (∀ W, Below w8.heap.size w8 W → (Instr.loadAt 26 (.pointer (some ⟨w5.heap.size, 0, none⟩))).run Try.prog W = .ok (.agg d5.toArray) W) := fun W hW => agg_load Try.isAgg26 Try.sizeOf26 L5.out (CellsAt.of_blk (blk_on (blk_on B5.out hy7) hW))
  have P7 : Hid (∀ W, Below w8.heap.size w8 W → (Instr.loadAt 26 (.pointer (some ⟨w7.heap.size, 0, none⟩))).run Try.prog W = .ok (.agg d7.toArray) W) := fun W hW => agg_load Try.isAgg26 Try.sizeOf26 hd7.len (CellsAt.of_blk (blk_on b7 hW))
  have S1 : Hid (Calls Try.prog 19 #[.agg d1.toArray, .agg d3.toArray] w8 fun e w' => e = .returned (.bool true) ∧ Below w8.heap.size w8 w') := by
    have k := RSame_calls w8 (D1.out.on z3) (D3.out.on z5)
    rw [sameM_self] at k
    exact k
  have S2 : Hid (∀ W, Below w8.heap.size w8 W → Calls Try.prog 19 #[.agg d5.toArray, .agg d7.toArray] W fun e w' => e = .returned (.bool true) ∧ Below W.heap.size W w') := fun W hW => by
    have k := RSame_calls W ((D5.out.on hy7).on hW) ((hd7.on hc7).on hW)
    rw [sameM_self] at k
    exact k
  have C4 : Hid (er4 = 0 → ∀ W, Below w8.heap.size w8 W → Calls Try.prog 21 #[.agg d1.toArray] W fun e w' => e = .returned (.int .i64 kind) ∧ Below W.heap.size W w') := fun h0 W hW => by
    have k := Kind4_calls W ((D1.out.on z3).on hW)
    rw [K4.out h0] at k
    exact k
  have C6 : Hid (er6 = 0 → ∀ W, Below w8.heap.size w8 W → Calls Try.prog 23 #[.agg d5.toArray] W fun e w' => e = .returned (.int .i64 kind) ∧ Below W.heap.size W w') := fun h0 W hW => by
    have k := Kind6_calls W ((D5.out.on hy7).on hW)
    rw [K6.out h0] at k
    exact k
  have HST7 : Hid _ := hst7
  have HF : Hid (Below w.heap.size w w8) := hx8
  have hz0 : Below w8.heap.size w8 w8 := Below.refl _ _
  clear hd7 hb7 hc7 hst7 b7 hy7 z5 z3 hx8 hx6 hx4 hx2 hx0 D1 D3 D5 B1 B3 B5 L1 L3 L5 Y1 Y3 Y5 HST1 HST3 HST5 M4 K4 K6
  go_wp2_with first
    | ((with_reducible show wpList _ _ _ _ _ _); refine arm_store rfl (.tmp 15) (.tmp 49) 26 rfl rfl rfl HST7.out ?_)
    | ((with_reducible show wpList _ _ _ _ _ _); refine arm_load rfl (.tmp 9) 26 rfl rfl (P1.out _ hz0) ?_)
    | ((with_reducible show wpList _ _ _ _ _ _); refine arm_load rfl (.tmp 11) 26 rfl rfl (P3.out _ hz0) ?_)
  refine Calls.mono S1.out ?_
  rintro _ w9 ⟨rfl, hz9⟩
  go_wp2_with first
    | ((with_reducible show wpList _ _ _ _ _ _); refine arm_load rfl (.tmp 13) 26 rfl rfl (P5.out _ hz9) ?_)
    | ((with_reducible show wpList _ _ _ _ _ _); refine arm_load rfl (.tmp 15) 26 rfl rfl (P7.out _ hz9) ?_)
  refine Calls.mono (S2.out _ hz9) ?_
  rintro _ w10 ⟨rfl, hz10⟩
  have hza := hz9.trans (hz10.mono hz9.size)
  clear S1 S2 HST7 P3 P7
  by_cases h4 : er4 = 0
  · subst h4
    by_cases h6 : er6 = 0
    · subst h6
      have C4q : Hid _ := C4.out rfl
      have C6q : Hid _ := C6.out rfl
      clear C4
      clear C6
      go_wp2_with first
        | ((with_reducible show wpList _ _ _ _ _ _); refine arm_load rfl (.tmp 9) 26 rfl rfl (P1.out _ hza) ?_)
        | ((with_reducible show wpList _ _ _ _ _ _); refine arm_load rfl (.tmp 13) 26 rfl rfl (P5.out _ hza) ?_)
      refine Calls.mono (C4q.out _ hza) ?_
      rintro _ w11 ⟨rfl, hz11⟩
      have hzb := hza.trans (hz11.mono hza.size)
      go_wp2_with first
        | ((with_reducible show wpList _ _ _ _ _ _); refine arm_load rfl (.tmp 13) 26 rfl rfl (P5.out _ hzb) ?_)
      refine Calls.mono (C6q.out _ hzb) ?_
      rintro _ w12 ⟨rfl, hz12⟩
      have hzc := hzb.trans (hz12.mono hzb.size)
      go_wp2_with fail
      refine Calls.mono (alive_calls _) ?_
      rintro _ w13 ⟨rfl, hz13⟩
      have HZ : Hid _ := hzc.trans (hz13.mono hzc.size)
      clear hz13
      go_wp2
      go_ret
      exact ⟨rfl, HF.out.trans (HZ.out.mono HF.out.size)⟩
    · have p6 : (er6 == 0) = false := by simpa using h6
      clear h6 C6
      have C4q : Hid _ := C4.out rfl
      clear C4
      go_wp2_with first
        | ((with_reducible show wpList _ _ _ _ _ _); refine arm_load rfl (.tmp 9) 26 rfl rfl (P1.out _ hza) ?_)
        | ((with_reducible show wpList _ _ _ _ _ _); refine arm_load rfl (.tmp 13) 26 rfl rfl (P5.out _ hza) ?_)
      refine Calls.mono (C4q.out _ hza) ?_
      rintro _ w11 ⟨rfl, hz11⟩
      have hzb := hza.trans (hz11.mono hza.size)
      go_wp2_with first
        | ((with_reducible show wpList _ _ _ _ _ _); refine arm_load rfl (.tmp 13) 26 rfl rfl (P5.out _ hzb) ?_)
      refine Calls.mono (alive_calls _) ?_
      rintro _ w13 ⟨rfl, hz13⟩
      have HZ : Hid _ := hzb.trans (hz13.mono hzb.size)
      clear hz13
      go_wp2
      go_ret
      exact ⟨rfl, HF.out.trans (HZ.out.mono HF.out.size)⟩
  · have p4 : (er4 == 0) = false := by simpa using h4
    clear h4 C4
    by_cases h6 : er6 = 0
    · subst h6
      have C6q : Hid _ := C6.out rfl
      clear C6
      go_wp2_with first
        | ((with_reducible show wpList _ _ _ _ _ _); refine arm_load rfl (.tmp 9) 26 rfl rfl (P1.out _ hza) ?_)
        | ((with_reducible show wpList _ _ _ _ _ _); refine arm_load rfl (.tmp 13) 26 rfl rfl (P5.out _ hza) ?_)
      refine Calls.mono (C6q.out _ hza) ?_
      rintro _ w12 ⟨rfl, hz12⟩
      have hzc := hza.trans (hz12.mono hza.size)
      go_wp2_with fail
      refine Calls.mono (alive_calls _) ?_
      rintro _ w13 ⟨rfl, hz13⟩
      have HZ : Hid _ := hzc.trans (hz13.mono hzc.size)
      clear hz13
      go_wp2
      go_ret
      exact ⟨rfl, HF.out.trans (HZ.out.mono HF.out.size)⟩
    · have p6 : (er6 == 0) = false := by simpa using h6
      clear h6 C6
      go_wp2_with first
        | ((with_reducible show wpList _ _ _ _ _ _); refine arm_load rfl (.tmp 9) 26 rfl rfl (P1.out _ hza) ?_)
        | ((with_reducible show wpList _ _ _ _ _ _); refine arm_load rfl (.tmp 13) 26 rfl rfl (P5.out _ hza) ?_)
      refine Calls.mono (alive_calls _) ?_
      rintro _ w13 ⟨rfl, hz13⟩
      have HZ : Hid _ := hza.trans (hz13.mono hza.size)
      clear hz13
      go_wp2
      go_ret
      exact ⟨rfl, HF.out.trans (HZ.out.mono HF.out.size)⟩

set_option maxRecDepth 100000 in
theorem icmpErrors_open {H : Type} {enc : TypeId × Value → H} {W : World} {base : Nat} (v0 v1 v2 v3 : Value) {d0 d1 d2 d3 : DataW H} {p0 p1 p2 p3 : List MemPlace}
    (o0 : Value.okWide Try.prog W .any base 3 v0) (h0 : DataW.Trod enc Try.prog W 0 (fun _ => true) true 3 v0 d0 p0) (z0 : ∀ k ∈ d0.weights Try.prog 3, k ≤ reachBytes)
    (o1 : Value.okWide Try.prog W .any base 5 v1) (h1 : DataW.Trod enc Try.prog W 0 (fun _ => true) true 5 v1 d1 p1) (z1 : ∀ k ∈ d1.weights Try.prog 5, k ≤ reachBytes)
    (o2 : Value.okWide Try.prog W .any base 23 v2) (h2 : DataW.Trod enc Try.prog W 0 (fun _ => true) true 23 v2 d2 p2) (z2 : ∀ k ∈ d2.weights Try.prog 23, k ≤ reachBytes)
    (o3 : Value.okWide Try.prog W .any base 24 v3) (h3 : DataW.Trod enc Try.prog W 0 (fun _ => true) true 24 v3 d3 p3) (z3 : ∀ k ∈ d3.weights Try.prog 24, k ≤ reachBytes) :
    Calls Try.prog 6 #[v0, v1, v2, v3] W fun e w' => e = .returned (.bool true) ∧ Below W.heap.size W w' := by
  obtain ⟨n, rfl, _, _, wn⟩ := Go.ChangeShapes.open_int Try.underlying3 o0 h0
  obtain ⟨c, rfl, _, _, wc⟩ := Go.ChangeShapes.open_int Try.underlying5 o1 h1
  have hc := bounds_u8 wc
  obtain ⟨r, rfl, _, _, wr⟩ := Go.ChangeShapes.open_int Try.underlying23 o2 h2
  have hr := bounds_u32 wr
  obtain ⟨zs, hrow⟩ := open_row o3 h3 z3
  exact icmpErrors_walk n c r (by omega) (by omega) v3 zs W hrow

end Go.Proofs.Ytljmamogefgiaaa
