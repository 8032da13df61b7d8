/-
  Ipv4OneBit.
-/
import Derived.Test.YtmoogfdmlbalbaaIu1
namespace Go.Proofs.Ytmoogfdmlbalbaa
open Go Go.RowKit
set_option linter.unusedVariables false
set_option linter.unusedSimpArgs false

theorem xor_cases : ∀ x, x < 256 → ∀ k, k < 8 → ((x ^^^ 2 ^ k) < 256 ∧ ((x ^^^ 2 ^ k) = x + 2 ^ k ∨ (x ^^^ 2 ^ k) + 2 ^ k = x)) := by decide +kernel
theorem turned_bit (z : Int) (k : Nat) (hz : 0 ≤ z ∧ z < 256) (hk : k < 8) : (0 ≤ bits .xor .u8 z ((2 : Int) ^ k % 256) ∧ bits .xor .u8 z ((2 : Int) ^ k % 256) < 256) ∧ (bits .xor .u8 z ((2 : Int) ^ k % 256) = z + ((2 ^ k : Nat) : Int) ∨ bits .xor .u8 z ((2 : Int) ^ k % 256) = z - ((2 ^ k : Nat) : Int)) := by
  obtain ⟨x, rfl⟩ := Int.eq_ofNat_of_zero_le hz.1
  have h2 : 2 ^ k < 256 := by
    have : 2 ^ k ≤ 2 ^ 7 := Nat.pow_le_pow_right (by decide) (by omega)
    omega
  have e : ((2 : Int) ^ k % 256) = ((2 ^ k : Nat) : Int) := by
    have e1 : ((2 ^ k : Nat) : Int) = (2 : Int) ^ k := by simp
    rw [← e1]
    generalize 2 ^ k = m at h2 ⊢
    omega
  rw [e, u8_xor_nat x (2 ^ k) (by omega) h2]
  have := xor_cases x (by omega) k hk
  generalize 2 ^ k = m at this ⊢
  generalize x ^^^ m = q at this ⊢
  omega
theorem wordsL_one (a : Int) : wordsL [a] = [a * 256] := by simp [wordsL, wd]
theorem words_set : ∀ (l : List Int) (i : Nat) (v : Int), i < l.length → (wordsL (l.set i v)).sum = (wordsL l).sum + (v - l[i]?.getD 0) * (if i % 2 = 0 then 256 else 1)
  | [], i, v, h => by simp at h
  | [a], i, v, h => by
    obtain rfl : i = 0 := by simp at h; exact h
    show (wordsL [v]).sum = (wordsL [a]).sum + (v - a) * 256
    rw [wordsL_one, wordsL_one]
    simp
    omega
  | a :: b :: t, 0, v, h => by
    show (wordsL (v :: b :: t)).sum = (wordsL (a :: b :: t)).sum + (v - a) * 256
    rw [wordsL_two, wordsL_two]
    simp
    omega
  | a :: b :: t, 1, v, h => by
    show (wordsL (a :: v :: t)).sum = (wordsL (a :: b :: t)).sum + (v - b) * 1
    rw [wordsL_two, wordsL_two]
    simp
    omega
  | a :: b :: t, i + 2, v, h => by
    have ih := words_set t i v (by simp at h; omega)
    show (wordsL (a :: b :: t.set i v)).sum = (wordsL (a :: b :: t)).sum + (v - t[i]?.getD 0) * (if (i + 2) % 2 = 0 then 256 else 1)
    rw [wordsL_two, wordsL_two, show (i + 2) % 2 = i % 2 by omega]
    simp only [List.sum_cons]
    rw [ih]
    omega
theorem pow_cases (k : Nat) (hk : k < 8) : 2 ^ k = 1 ∨ 2 ^ k = 2 ∨ 2 ^ k = 4 ∨ 2 ^ k = 8 ∨ 2 ^ k = 16 ∨ 2 ^ k = 32 ∨ 2 ^ k = 64 ∨ 2 ^ k = 128 := by
  match k, hk with
  | 0, _ => decide
  | 1, _ => decide
  | 2, _ => decide
  | 3, _ => decide
  | 4, _ => decide
  | 5, _ => decide
  | 6, _ => decide
  | 7, _ => decide
theorem pow_high (k : Nat) (hk : k < 8) (h4 : 4 ≤ k) : 2 ^ k = 16 ∨ 2 ^ k = 32 ∨ 2 ^ k = 64 ∨ 2 ^ k = 128 := by
  match k, hk, h4 with
  | 4, _, _ => decide
  | 5, _, _ => decide
  | 6, _, _ => decide
  | 7, _, _ => decide
theorem pErr_snd {zs : List Int} {part : Bool} (h : pErr zs part ≠ (0, 0)) : (pErr zs part).2 ≠ 0 := by
  unfold pErr at *
  split
  · decide
  · split
    · decide
    · split
      · decide
      · split
        · decide
        · split
          · decide
          · next a b c d e => rw [if_neg a, if_neg b, if_neg c, if_neg d, if_neg e] at h; exact absurd rfl h
section
variable {tos id : Int} {df mf : Bool} {off ttl proto s0 s1 s2 s3 d0 d1 d2 d3 sm : Int} {opts body : List Int} {all : Nat}
theorem rhd_sum : (wordsL (rhd (20 + opts.length) all tos id (cutW off df mf) ttl proto s0 s1 s2 s3 d0 d1 d2 d3 sm opts)).sum = (wordsL (rhd (20 + opts.length) all tos id (cutW off df mf) ttl proto s0 s1 s2 s3 d0 d1 d2 d3 0 opts)).sum + sm := by
  simp only [rhd, List.cons_append, List.nil_append, wordsL_two, List.sum_cons]
  omega
/-- A header with a right checksum in which one bit is turned is none. -/
theorem oneBit_none (hn : opts.length ≤ 40) (h4 : opts.length % 4 = 0) (hf : Fit (rhd (20 + opts.length) all tos id (cutW off df mf) ttl proto s0 s1 s2 s3 d0 d1 d2 d3 sm opts ++ body))
    (hsm : sm = 65535 - sumW 0 (wordsL (rhd (20 + opts.length) all tos id (cutW off df mf) ttl proto s0 s1 s2 s3 d0 d1 d2 d3 0 opts))) (i k : Nat) (hi : i < 20 + opts.length) (hk : k < 8) (hik : 4 ≤ 8 * i + k) (y : Int)
    (hy : y = (rhd (20 + opts.length) all tos id (cutW off df mf) ttl proto s0 s1 s2 s3 d0 d1 d2 d3 sm opts ++ body)[i]?.getD 0 + ((2 ^ k : Nat) : Int) ∨ y = (rhd (20 + opts.length) all tos id (cutW off df mf) ttl proto s0 s1 s2 s3 d0 d1 d2 d3 sm opts ++ body)[i]?.getD 0 - ((2 ^ k : Nat) : Int)) :
    pErr ((rhd (20 + opts.length) all tos id (cutW off df mf) ttl proto s0 s1 s2 s3 d0 d1 d2 d3 sm opts ++ body).set i y) false ≠ (0, 0) := by
  have hX := rhd_sum (tos := tos) (id := id) (df := df) (mf := mf) (off := off) (ttl := ttl) (proto := proto) (s0 := s0) (s1 := s1) (s2 := s2) (s3 := s3) (d0 := d0) (d1 := d1) (d2 := d2) (d3 := d3) (sm := sm) (opts := opts) (all := all)
  have hM := sumW_mod (wordsL (rhd (20 + opts.length) all tos id (cutW off df mf) ttl proto s0 s1 s2 s3 d0 d1 d2 d3 0 opts)) 0
  have hl := rhd_length (20 + opts.length) all tos id (cutW off df mf) ttl proto s0 s1 s2 s3 d0 d1 d2 d3 sm opts
  have hh := rhd_head (tos := tos) (id := id) (df := df) (mf := mf) (off := off) (ttl := ttl) (proto := proto) (s0 := s0) (s1 := s1) (s2 := s2) (s3 := s3) (d0 := d0) (d1 := d1) (d2 := d2) (d3 := d3) (sm := sm) (opts := opts) (body := body) (all := all) hn h4
  have hz0 : (rhd (20 + opts.length) all tos id (cutW off df mf) ttl proto s0 s1 s2 s3 d0 d1 d2 d3 sm opts ++ body)[0]?.getD 0 = 64 + ((20 + opts.length : Nat) : Int) / 4 := rfl
  generalize sumW 0 (wordsL (rhd (20 + opts.length) all tos id (cutW off df mf) ttl proto s0 s1 s2 s3 d0 d1 d2 d3 0 opts)) = S0 at *
  generalize (wordsL (rhd (20 + opts.length) all tos id (cutW off df mf) ttl proto s0 s1 s2 s3 d0 d1 d2 d3 0 opts)).sum = X0 at *
  generalize rhd (20 + opts.length) all tos id (cutW off df mf) ttl proto s0 s1 s2 s3 d0 d1 d2 d3 sm opts = A at *
  intro hp
  have hlen : (A ++ body).length = 20 + opts.length + body.length := by rw [List.length_append, hl]
  unfold pErr at hp
  rw [if_neg (by rw [List.length_set, hlen]; omega)] at hp
  by_cases hv : gz ((A ++ body).set i y) 0 / 16 ≠ 4
  · rw [if_pos hv] at hp
    cases hp
  · rw [if_neg hv] at hp
    have hi0 : i ≠ 0 := by
      rintro rfl
      have e : gz ((A ++ body).set 0 y) 0 = y := by
        unfold gz
        rw [List.getElem?_set_self (by rw [hlen]; omega)]
        rfl
      rw [e] at hv
      rw [hz0] at hy
      have hpw := pow_high k hk (by omega)
      omega
    have hhd : pHead ((A ++ body).set i y) = ((20 + opts.length : Nat) : Int) := by
      rw [← hh]
      unfold pHead gz
      rw [List.getElem?_set_ne (by omega)]
    by_cases hs : ¬ (20 ≤ pHead ((A ++ body).set i y) ∧ pHead ((A ++ body).set i y) ≤ ((A ++ body).set i y).length)
    · rw [if_pos hs] at hp
      cases hp
    · rw [if_neg hs] at hp
      by_cases ha : pAll ((A ++ body).set i y) < ((A ++ body).set i y).length ∨ ((A ++ body).set i y).length < pAll ((A ++ body).set i y) ∧ false = false
      · rw [if_pos ha] at hp
        cases hp
      · rw [if_neg ha] at hp
        by_cases hq : false = false ∧ sumW 0 (wordsL (((A ++ body).set i y).take (pHead ((A ++ body).set i y)).toNat)) ≠ 65535
        · rw [if_pos hq] at hp
          cases hp
        · have hq' : sumW 0 (wordsL (((A ++ body).set i y).take (pHead ((A ++ body).set i y)).toNat)) = 65535 := by
            by_cases h : sumW 0 (wordsL (((A ++ body).set i y).take (pHead ((A ++ body).set i y)).toNat)) = 65535
            · exact h
            · exact absurd ⟨rfl, h⟩ hq
          have htk : ((A ++ body).set i y).take (pHead ((A ++ body).set i y)).toNat = A.set i y := by
            rw [hhd, show (((20 + opts.length : Nat) : Int)).toNat = 20 + opts.length by omega, List.set_append_left _ _ (by rw [hl]; exact hi), List.take_append_of_le_length (by rw [List.length_set, hl]; omega), List.take_of_length_le (by rw [List.length_set, hl]; omega)]
          rw [htk] at hq'
          have h1 := sumW_mod (wordsL (A.set i y)) 0
          rw [hq', words_set A i y (by rw [hl]; exact hi)] at h1
          have e : (A ++ body)[i]?.getD 0 = A[i]?.getD 0 := by rw [List.getElem?_append_left (by rw [hl]; exact hi)]
          rw [e] at hy
          have hpw := pow_cases k hk
          generalize A[i]?.getD 0 = z at *
          clear hp hq hq' ha hs hhd htk hv hz0 hf hh hl hlen e
          split at h1 <;> omega
end

set_option maxHeartbeats 1000000 in
set_option maxRecDepth 100000 in
theorem ipv4OneBit_no (c : List Value) (tos id : Int) (df mf : Bool) (off ttl proto s0 s1 s2 s3 d0 d1 d2 d3 : Int) (opts body : List Int) (n : Int) (w : World) (h : Dgram w c tos id df mf off ttl proto s0 s1 s2 s3 d0 d1 d2 d3 opts body) (hk : chk off opts.length body.length ≠ 0) :
    Calls Try.prog 9 #[.agg c.toArray, .int .i64 n] w fun e w' => e = .returned (.bool true) ∧ Below w.heap.size w w' := by
  have hL := h.lens
  have hb0 := blk_new w (.cells c.toArray 27)
  have hB0 := (Below.refl w.heap.size w).alloc (Nat.le_refl _) (.cells c.toArray 27)
  generalize hW0 : w.alloc (.cells c.toArray 27) = W0 at *
  have hLA : ∀ x : Hi W0, (Instr.loadAt 27 (.pointer (some ⟨w.heap.size, 0, none⟩))).run Try.prog x.W = .ok (.agg c.toArray) x.W := fun x => agg_load Try.isAgg27 Try.sizeOf27 hL.len (CellsAt.of_blk (Hi.blk hb0 x))
  have HLA : Hid _ := hLA
  have HD : Hid _ := h
  have HL : Hid _ := hL
  have HB0 : Hid _ := hB0
  have HBK : Hid _ := hb0
  have HW0 : Hid _ := hW0
  have HAW : Hid _ := awake_calls W0
  have HWR : Hid _ := fun W => Write_no c off opts.length body.length W HL.out hk
  have q : (chk off opts.length body.length != 0) = true := by simp [hk]
  clear hk
  generalize chk off opts.length body.length = kk at *
  clear hLA hB0 hb0 hL h hW0
  rw [← HW0.out] at HAW
  go_enter Try.func9, Try.ntmps9
  go_wp2_with fail
  refine Calls.mono HAW.out ?_
  rintro e1 w1 ⟨rfl, hb1⟩
  rw [HW0.out] at hb1
  have hbw1 := HB0.out.trans (hb1.mono HB0.out.size)
  have hl1 : (Instr.loadAt 27 (.pointer (some ⟨w.heap.size, 0, none⟩))).run Try.prog w1 = .ok (.agg c.toArray) w1 := HLA.out ⟨w1, hb1⟩
  have HL1 : Hid _ := hl1
  clear hl1
  have HB1 : Hid _ := hb1
  clear hb1
  go_wp2_with ((with_reducible show wpList _ _ _ _ _ _); refine arm_load rfl (.tmp 2) 27 rfl rfl HL1.out ?_)
  refine Calls.mono (HWR.out w1) ?_
  rintro e2 w2 ⟨rfl, hb2⟩
  have hfin := hbw1.trans (hb2.mono hbw1.size)
  clear HWR HL1 hb2 hbw1
  go_wp2
  go_ret
  exact ⟨rfl, hfin⟩

set_option maxHeartbeats 1000000 in
set_option maxRecDepth 100000 in
theorem ipv4OneBit_fara (c : List Value) (tos id : Int) (df mf : Bool) (off ttl proto s0 s1 s2 s3 d0 d1 d2 d3 : Int) (opts body : List Int) (n : Int) (w : World) (h : Dgram w c tos id df mf off ttl proto s0 s1 s2 s3 d0 d1 d2 d3 opts body) (hk : chk off opts.length body.length = 0) (hn : n < 4) :
    Calls Try.prog 9 #[.agg c.toArray, .int .i64 n] w fun e w' => e = .returned (.bool true) ∧ Below w.heap.size w w' := by
  have hL := h.lens
  have hb0 := blk_new w (.cells c.toArray 27)
  have hB0 := (Below.refl w.heap.size w).alloc (Nat.le_refl _) (.cells c.toArray 27)
  generalize hW0 : w.alloc (.cells c.toArray 27) = W0 at *
  have hLA : ∀ x : Hi W0, (Instr.loadAt 27 (.pointer (some ⟨w.heap.size, 0, none⟩))).run Try.prog x.W = .ok (.agg c.toArray) x.W := fun x => agg_load Try.isAgg27 Try.sizeOf27 hL.len (CellsAt.of_blk (Hi.blk hb0 x))
  have HLA : Hid _ := hLA
  have HD : Hid _ := h
  have HL : Hid _ := hL
  have HB0 : Hid _ := hB0
  have HBK : Hid _ := hb0
  have HW0 : Hid _ := hW0
  have HAW : Hid _ := awake_calls W0
  have HWR : Hid _ := fun W hB => Write_ok c tos id df mf off ttl proto s0 s1 s2 s3 d0 d1 d2 d3 opts body W (HD.out.on hB) hk
  obtain ⟨ab, kb, h15⟩ := HL.out.h15
  have H15 : Hid _ := h15
  have q1 : decide (n < 4) = true := by simp; omega
  have hno := (chk_zero hk).1
  clear hk h15
  clear hLA hB0 hb0 hL h hW0
  rw [← HW0.out] at HAW
  go_enter Try.func9, Try.ntmps9
  go_wp2_with fail
  refine Calls.mono HAW.out ?_
  rintro e1 w1 ⟨rfl, hb1⟩
  rw [HW0.out] at hb1
  have hbw1 := HB0.out.trans (hb1.mono HB0.out.size)
  have hl1 : (Instr.loadAt 27 (.pointer (some ⟨w.heap.size, 0, none⟩))).run Try.prog w1 = .ok (.agg c.toArray) w1 := HLA.out ⟨w1, hb1⟩
  have HL1 : Hid _ := hl1
  clear hl1
  have HB1 : Hid _ := hb1
  go_wp2_with ((with_reducible show wpList _ _ _ _ _ _); refine arm_load rfl (.tmp 2) 27 rfl rfl HL1.out ?_)
  refine Calls.mono (HWR.out w1 hbw1) ?_
  rintro e2 w2 ⟨g, rfl, hg, own, hb2⟩
  have hfin := hbw1.trans (hb2.mono hbw1.size)
  have hb02 := hb1.trans (hb2.mono hb1.size)
  have k15 := blk_cell (blk_on HBK.out hb02) H15.out
  clear HWR HL1 hb2 hbw1 own hb1 hb02 HD
  go_wp2
  go_ret
  exact ⟨rfl, hfin⟩

set_option maxHeartbeats 1000000 in
set_option maxRecDepth 100000 in
theorem ipv4OneBit_farb (c : List Value) (tos id : Int) (df mf : Bool) (off ttl proto s0 s1 s2 s3 d0 d1 d2 d3 : Int) (opts body : List Int) (n : Int) (w : World) (h : Dgram w c tos id df mf off ttl proto s0 s1 s2 s3 d0 d1 d2 d3 opts body) (hk : chk off opts.length body.length = 0) (hn4 : 4 ≤ n) (hn : 8 * (20 + (opts.length : Int)) ≤ n) :
    Calls Try.prog 9 #[.agg c.toArray, .int .i64 n] w fun e w' => e = .returned (.bool true) ∧ Below w.heap.size w w' := by
  have hL := h.lens
  have hb0 := blk_new w (.cells c.toArray 27)
  have hB0 := (Below.refl w.heap.size w).alloc (Nat.le_refl _) (.cells c.toArray 27)
  generalize hW0 : w.alloc (.cells c.toArray 27) = W0 at *
  have hLA : ∀ x : Hi W0, (Instr.loadAt 27 (.pointer (some ⟨w.heap.size, 0, none⟩))).run Try.prog x.W = .ok (.agg c.toArray) x.W := fun x => agg_load Try.isAgg27 Try.sizeOf27 hL.len (CellsAt.of_blk (Hi.blk hb0 x))
  have HLA : Hid _ := hLA
  have HD : Hid _ := h
  have HL : Hid _ := hL
  have HB0 : Hid _ := hB0
  have HBK : Hid _ := hb0
  have HW0 : Hid _ := hW0
  have HAW : Hid _ := awake_calls W0
  have HWR : Hid _ := fun W hB => Write_ok c tos id df mf off ttl proto s0 s1 s2 s3 d0 d1 d2 d3 opts body W (HD.out.on hB) hk
  obtain ⟨ab, kb, h15⟩ := HL.out.h15
  have H15 : Hid _ := h15
  have q1 : decide (n < 4) = false := by simp; omega
  have q2 : decide (8 * (20 + (opts.length : Int)) ≤ n) = true := by simp; omega
  have hno := (chk_zero hk).1
  clear hk h15
  clear hLA hB0 hb0 hL h hW0
  rw [← HW0.out] at HAW
  go_enter Try.func9, Try.ntmps9
  go_wp2_with fail
  refine Calls.mono HAW.out ?_
  rintro e1 w1 ⟨rfl, hb1⟩
  rw [HW0.out] at hb1
  have hbw1 := HB0.out.trans (hb1.mono HB0.out.size)
  have hl1 : (Instr.loadAt 27 (.pointer (some ⟨w.heap.size, 0, none⟩))).run Try.prog w1 = .ok (.agg c.toArray) w1 := HLA.out ⟨w1, hb1⟩
  have HL1 : Hid _ := hl1
  clear hl1
  have HB1 : Hid _ := hb1
  go_wp2_with ((with_reducible show wpList _ _ _ _ _ _); refine arm_load rfl (.tmp 2) 27 rfl rfl HL1.out ?_)
  refine Calls.mono (HWR.out w1 hbw1) ?_
  rintro e2 w2 ⟨g, rfl, hg, own, hb2⟩
  have hfin := hbw1.trans (hb2.mono hbw1.size)
  have hb02 := hb1.trans (hb2.mono hb1.size)
  have k15 := blk_cell (blk_on HBK.out hb02) H15.out
  clear HWR HL1 hb2 hbw1 own hb1 hb02 HD
  go_wp2
  go_ret
  exact ⟨rfl, hfin⟩

set_option maxHeartbeats 1000000 in
set_option maxRecDepth 100000 in
theorem ipv4OneBit_ok (c : List Value) (tos id : Int) (df mf : Bool) (off ttl proto s0 s1 s2 s3 d0 d1 d2 d3 : Int) (opts body : List Int) (n : Int) (w : World) (h : Dgram w c tos id df mf off ttl proto s0 s1 s2 s3 d0 d1 d2 d3 opts body) (hk : chk off opts.length body.length = 0) (hn4 : 4 ≤ n) (hn : n < 8 * (20 + (opts.length : Int))) :
    Calls Try.prog 9 #[.agg c.toArray, .int .i64 n] w fun e w' => e = .returned (.bool true) ∧ Below w.heap.size w w' := by
  have hL := h.lens
  have hb0 := blk_new w (.cells c.toArray 27)
  have hB0 := (Below.refl w.heap.size w).alloc (Nat.le_refl _) (.cells c.toArray 27)
  generalize hW0 : w.alloc (.cells c.toArray 27) = W0 at *
  have hLA : ∀ x : Hi W0, (Instr.loadAt 27 (.pointer (some ⟨w.heap.size, 0, none⟩))).run Try.prog x.W = .ok (.agg c.toArray) x.W := fun x => agg_load Try.isAgg27 Try.sizeOf27 hL.len (CellsAt.of_blk (Hi.blk hb0 x))
  have HLA : Hid _ := hLA
  have HD : Hid _ := h
  have HL : Hid _ := hL
  have HB0 : Hid _ := hB0
  have HBK : Hid _ := hb0
  have HW0 : Hid _ := hW0
  have HAW : Hid _ := awake_calls W0
  have HWR : Hid _ := fun W hB => Write_ok c tos id df mf off ttl proto s0 s1 s2 s3 d0 d1 d2 d3 opts body W (HD.out.on hB) hk
  obtain ⟨hno, hnb, ho⟩ := chk_zero hk
  have h4 := chk_zero4 hk
  obtain ⟨sm, hwe, hsm, hsm0, hsm1, hfit⟩ := wrL_fit HD.out hk
  have hwl : (wrL tos id df mf off ttl proto s0 s1 s2 s3 d0 d1 d2 d3 opts body).length = 20 + opts.length + body.length := by rw [hwe, List.length_append, rhd_length]
  have hparse : ∀ W g, OwnG W g ((wrL tos id df mf off ttl proto s0 s1 s2 s3 d0 d1 d2 d3 opts body).set (n / 8).toNat (bits .xor .u8 ((wrL tos id df mf off ttl proto s0 s1 s2 s3 d0 d1 d2 d3 opts body)[(n / 8).toNat]?.getD 0) (2 ^ (n % 8).toNat % 256))) → Calls Try.prog 18 #[.slice (some ⟨g, 0, none⟩) (20 + opts.length + body.length) (20 + opts.length + body.length)] W fun e w' => ∃ c' at' er, e = .returned (.tuple #[.agg c'.toArray, .int .i64 at', .int .i64 er]) ∧ er ≠ 0 ∧ Dgram w' c' 0 0 false false 0 0 0 0 0 0 0 0 0 0 0 [] [] ∧ Below W.heap.size W w' := fun W g hO => by
    have hzf : 0 ≤ (wrL tos id df mf off ttl proto s0 s1 s2 s3 d0 d1 d2 d3 opts body)[(n / 8).toNat]?.getD 0 ∧ (wrL tos id df mf off ttl proto s0 s1 s2 s3 d0 d1 d2 d3 opts body)[(n / 8).toNat]?.getD 0 < 256 := by rw [hwe]; exact hfit.at _
    obtain ⟨hy, hy'⟩ := turned_bit _ (n % 8).toNat hzf (by omega)
    have hne : pErr ((wrL tos id df mf off ttl proto s0 s1 s2 s3 d0 d1 d2 d3 opts body).set (n / 8).toNat (bits .xor .u8 ((wrL tos id df mf off ttl proto s0 s1 s2 s3 d0 d1 d2 d3 opts body)[(n / 8).toNat]?.getD 0) (2 ^ (n % 8).toNat % 256))) false ≠ (0, 0) := by
      rw [hwe] at hy' ⊢
      exact oneBit_none hno h4 hfit hsm (n / 8).toNat (n % 8).toNat (by omega) (by omega) (by omega) _ hy'
    have hfs : Fit ((wrL tos id df mf off ttl proto s0 s1 s2 s3 d0 d1 d2 d3 opts body).set (n / 8).toNat (bits .xor .u8 ((wrL tos id df mf off ttl proto s0 s1 s2 s3 d0 d1 d2 d3 opts body)[(n / 8).toNat]?.getD 0) (2 ^ (n % 8).toNat % 256))) := by
      refine set_fit ?_ _ _ hy
      rw [hwe]; exact hfit
    have hrow := hO.row hfs (by rw [List.length_set, hwl]; exact hnb) (20 + opts.length + body.length) (20 + opts.length + body.length) (by rw [List.length_set, hwl]; exact Nat.le_refl _) (Nat.le_refl _)
    rw [List.take_of_length_le (by rw [List.length_set, hwl]; exact Nat.le_refl _)] at hrow
    refine Calls.mono (Parse_any hrow) ?_
    rintro e w' ⟨c', he, hP, hA, hB⟩
    unfold ParD at hP
    rw [if_neg hne] at hP
    exact ⟨c', _, _, he, pErr_snd hne, hP, hB⟩
  have HPA : Hid _ := hparse
  have HWL : Hid _ := hwl
  clear hparse hwl hfit hwe hsm hsm0 hsm1 h4 ho
  obtain ⟨ab, kb, h15⟩ := HL.out.h15
  have H15 : Hid _ := h15
  have q1 : decide (n < 4) = false := by simp; omega
  have q2 : decide (8 * (20 + (opts.length : Int)) ≤ n) = false := by simp; omega
  clear hk h15
  clear hLA hB0 hb0 hL h hW0
  rw [← HW0.out] at HAW
  go_enter Try.func9, Try.ntmps9
  go_wp2_with fail
  refine Calls.mono HAW.out ?_
  rintro e1 w1 ⟨rfl, hb1⟩
  rw [HW0.out] at hb1
  have hbw1 := HB0.out.trans (hb1.mono HB0.out.size)
  have hl1 : (Instr.loadAt 27 (.pointer (some ⟨w.heap.size, 0, none⟩))).run Try.prog w1 = .ok (.agg c.toArray) w1 := HLA.out ⟨w1, hb1⟩
  have HL1 : Hid _ := hl1
  clear hl1
  have HB1 : Hid _ := hb1
  go_wp2_with ((with_reducible show wpList _ _ _ _ _ _); refine arm_load rfl (.tmp 2) 27 rfl rfl HL1.out ?_)
  refine Calls.mono (HWR.out w1 hbw1) ?_
  rintro e2 w2 ⟨g, rfl, hg, own, hb2⟩
  have hfin := hbw1.trans (hb2.mono hbw1.size)
  have hb02 := hb1.trans (hb2.mono hb1.size)
  have k15 := blk_cell (blk_on HBK.out hb02) H15.out
  have OWN : Hid _ := own
  have hil : (n / 8).toNat < (wrL tos id df mf off ttl proto s0 s1 s2 s3 d0 d1 d2 d3 opts body).length := by rw [HWL.out]; omega
  have kc := own.cell (n / 8).toNat hil
  have fc := own.open (n / 8).toNat
  have HP3 : Hid _ := HPA.out _ g (own.set (n / 8).toNat hil _)
  have HG : Hid _ := hg
  have hbw3 : Below w.heap.size w (w2.setCell ⟨g, (n / 8).toNat, none⟩ (.int .u8 (bits .xor .u8 ((wrL tos id df mf off ttl proto s0 s1 s2 s3 d0 d1 d2 d3 opts body)[(n / 8).toNat]?.getD 0) (2 ^ (n % 8).toNat % 256)))) := hfin.setCell (Nat.le_trans (HB0.out.size) (Nat.le_trans HB1.out.size hg)) _
  generalize (wrL tos id df mf off ttl proto s0 s1 s2 s3 d0 d1 d2 d3 opts body)[(n / 8).toNat]?.getD 0 = zi at *
  have HBW3 : Hid _ := hbw3
  clear HWR HL1 hb2 hbw1 own hb1 hb02 HD hil hfin hbw3 HPA HWL OWN hg
  go_wp2_with fail
  refine Calls.mono HP3.out ?_
  rintro e4 w4 ⟨c4, at4, er4, rfl, her, hD4, hb4⟩
  have q5 : (er4 != 0) = true := by simp [her]
  obtain ⟨w5, hst5, hk5, hb5, hlt5⟩ := box17k w4 c4 ⟨hD4.lens.len, hD4.ones⟩
  have hbw4 := HBW3.out.trans (hb4.mono HBW3.out.size)
  have hbw5 := hbw4.trans (hb5.mono hbw4.size)
  have hrs := RSame_calls w5 (hD4.on hb5) (zero_dg w5)
  rw [sameB_self] at hrs
  have hld5 := agg_load (t := 27) Try.isAgg27 Try.sizeOf27 hD4.lens.len (CellsAt.of_blk hk5)
  have HRS : Hid _ := hrs
  have HLD5 : Hid _ := hld5
  have HST5 : Hid _ := hst5
  unfold zeroC at HST5 HRS
  clear hrs hld5 hst5 hk5 hb5 hlt5 hD4 hb4 hbw4 her kc fc HP3 k15
  go_wp2_with first
    | ((with_reducible show wpList _ _ _ _ _ _); refine arm_store rfl (.tmp 7) _ 27 rfl rfl rfl HST5.out ?_)
    | ((with_reducible show wpList _ _ _ _ _ _); refine arm_load rfl (.tmp 7) 27 rfl rfl HLD5.out ?_)
  refine Calls.mono HRS.out ?_
  rintro e9 w9 ⟨rfl, hb9⟩
  have hfin := hbw5.trans (hb9.mono hbw5.size)
  clear hb9
  go_wp2
  go_ret
  exact ⟨rfl, hfin⟩

theorem ipv4OneBit_open {H : Type} {enc : TypeId × Value → H} {W : World} {base : Nat} (v0 : Value) {d0 : DataW H} {p0 : List MemPlace} (v1 : Value) {d1 : DataW H} {p1 : List MemPlace}
    (o0 : Value.okWide Try.prog W .any base 27 v0) (h0 : DataW.Trod enc Try.prog W 0 (fun _ => true) true 27 v0 d0 p0) (z0 : ∀ k ∈ d0.weights Try.prog 27, k ≤ reachBytes)
    (o1 : Value.okWide Try.prog W .any base 3 v1) (h1 : DataW.Trod enc Try.prog W 0 (fun _ => true) true 3 v1 d1 p1) (z1 : ∀ k ∈ d1.weights Try.prog 3, k ≤ reachBytes) :
    Calls Try.prog 9 #[v0, v1] W fun e w' => e = .returned (.bool true) ∧ Below W.heap.size W w' := by
  obtain ⟨n, rfl, _, _, wn⟩ := Go.ChangeShapes.open_int Try.underlying3 o1 h1
  obtain ⟨c, tos, id, df, mf, off, ttl, proto, s0, s1, s2, s3, e0, e1, e2, e3, opts, body, rfl, hD⟩ := open_v4 h0 z0
  by_cases hk : chk off opts.length body.length = 0
  · by_cases hn4 : n < 4
    · exact ipv4OneBit_fara c tos id df mf off ttl proto s0 s1 s2 s3 e0 e1 e2 e3 opts body n W hD hk hn4
    · by_cases hn : 8 * (20 + (opts.length : Int)) ≤ n
      · exact ipv4OneBit_farb c tos id df mf off ttl proto s0 s1 s2 s3 e0 e1 e2 e3 opts body n W hD hk (by omega) hn
      · exact ipv4OneBit_ok c tos id df mf off ttl proto s0 s1 s2 s3 e0 e1 e2 e3 opts body n W hD hk (by omega) (by omega)
  · exact ipv4OneBit_no c tos id df mf off ttl proto s0 s1 s2 s3 e0 e1 e2 e3 opts body n W hD hk

end Go.Proofs.Ytmoogfdmlbalbaa
