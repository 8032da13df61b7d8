/-
  Both sides write the same bytes.
-/
import Derived.Test.YtmoogfdmlbalbaaIp6
namespace Go.Proofs.Ytmoogfdmlbalbaa
open Go Go.RowKit
set_option linter.unusedVariables false
set_option linter.unusedSimpArgs false

set_option maxRecDepth 100000 in
theorem hd8_take (size all : Nat) (tos id cw ttl proto s0 s1 s2 s3 d0 d1 d2 d3 : Int) :
    (laid (laid (hd6 size all tos id cw ttl proto) 12 [s0, s1, s2, s3]) 16 [d0, d1, d2, d3]).take 20 = rhd size all tos id cw ttl proto s0 s1 s2 s3 d0 d1 d2 d3 0 [] := by kernel_rfl

theorem hd9_split (size all : Nat) (tos id cw ttl proto s0 s1 s2 s3 d0 d1 d2 d3 : Int) (opts : List Int) :
    ∃ D, hd9 size all tos id cw ttl proto [s0, s1, s2, s3] [d0, d1, d2, d3] opts = rhd size all tos id cw ttl proto s0 s1 s2 s3 d0 d1 d2 d3 0 [] ++ (opts ++ D) := by
  refine ⟨(laid (laid (hd6 size all tos id cw ttl proto) 12 [s0, s1, s2, s3]) 16 [d0, d1, d2, d3]).drop (20 + opts.length), ?_⟩
  unfold hd9
  rw [show ∀ E : List Int, laid E 20 opts = E.take 20 ++ opts ++ E.drop (20 + opts.length) from fun _ => rfl, hd8_take, List.append_assoc]
theorem rhd_nil (size all : Nat) (tos id cw ttl proto s0 s1 s2 s3 d0 d1 d2 d3 sm : Int) (opts : List Int) :
    rhd size all tos id cw ttl proto s0 s1 s2 s3 d0 d1 d2 d3 sm opts = rhd size all tos id cw ttl proto s0 s1 s2 s3 d0 d1 d2 d3 sm [] ++ opts := by simp [rhd]
theorem take_split {A B D : List Int} {n : Nat} (h : A.length + B.length = n) : (A ++ (B ++ D)).take n = A ++ B := by
  rw [← List.append_assoc, List.take_append_of_le_length (by simp; omega), List.take_of_length_le (by simp; omega)]

theorem wr_same (tos id : Int) (df mf : Bool) (off ttl proto s0 s1 s2 s3 d0 d1 d2 d3 : Int) (opts body : List Int) :
    wrL tos id df mf off ttl proto s0 s1 s2 s3 d0 d1 d2 d3 opts body = rwrL tos id df mf off ttl proto s0 s1 s2 s3 d0 d1 d2 d3 opts body := by
  unfold wrL rwrL hdF
  obtain ⟨D, hD⟩ := hd9_split (20 + opts.length) (20 + opts.length + body.length) tos id (cutW off df mf) ttl proto s0 s1 s2 s3 d0 d1 d2 d3 opts
  have hl : (rhd (20 + opts.length) (20 + opts.length + body.length) tos id (cutW off df mf) ttl proto s0 s1 s2 s3 d0 d1 d2 d3 0 []).length + opts.length = 20 + opts.length := by rw [rhd_length]; simp
  have ht : (hd9 (20 + opts.length) (20 + opts.length + body.length) tos id (cutW off df mf) ttl proto [s0, s1, s2, s3] [d0, d1, d2, d3] opts).take (20 + opts.length) = rhd (20 + opts.length) (20 + opts.length + body.length) tos id (cutW off df mf) ttl proto s0 s1 s2 s3 d0 d1 d2 d3 0 opts := by
    rw [hD, take_split hl, ← rhd_nil]
  have hck : ckW (hd9 (20 + opts.length) (20 + opts.length + body.length) tos id (cutW off df mf) ttl proto [s0, s1, s2, s3] [d0, d1, d2, d3] opts) (20 + opts.length) = 65535 - sumW 0 (wordsL (rhd (20 + opts.length) (20 + opts.length + body.length) tos id (cutW off df mf) ttl proto s0 s1 s2 s3 d0 d1 d2 d3 0 opts)) := by
    unfold ckW
    rw [ht]
  rw [hck]
  generalize 65535 - sumW 0 (wordsL (rhd (20 + opts.length) (20 + opts.length + body.length) tos id (cutW off df mf) ttl proto s0 s1 s2 s3 d0 d1 d2 d3 0 opts)) = ck
  have hp : putL (rhd (20 + opts.length) (20 + opts.length + body.length) tos id (cutW off df mf) ttl proto s0 s1 s2 s3 d0 d1 d2 d3 0 [] ++ (opts ++ D)) 10 ck = rhd (20 + opts.length) (20 + opts.length + body.length) tos id (cutW off df mf) ttl proto s0 s1 s2 s3 d0 d1 d2 d3 ck [] ++ (opts ++ D) := by
    unfold putL
    have l1 : 10 < (rhd (20 + opts.length) (20 + opts.length + body.length) tos id (cutW off df mf) ttl proto s0 s1 s2 s3 d0 d1 d2 d3 0 []).length := by rw [rhd_length]; simp
    rw [List.set_append_left _ _ l1, List.set_append_left _ _ (by rw [List.length_set, rhd_length]; simp)]
    rfl
  rw [hD, hp, take_split (by rw [rhd_length]; simp), ← rhd_nil]

set_option maxHeartbeats 1000000 in
set_option maxRecDepth 100000 in
theorem RWrite_no (c : List Value) (off : Int) (no nb : Nat) (w : World) (hL : Lens c off no nb) (hk : chk off no nb ≠ 0) :
    Calls Try.prog 12 #[.agg c.toArray] w fun e w' => e = .returned (.tuple #[.slice none 0 0, .int .i64 (chk off no nb)]) ∧ Below w.heap.size w w' := by
  have hb0 := blk_new w (.cells c.toArray 27)
  have hB0 := (Below.refl w.heap.size w).alloc (Nat.le_refl _) (.cells c.toArray 27)
  have hsz := fun w => RCheck_calls c off no nb w hL
  have HLD : Hid _ := agg_load (t := 27) Try.isAgg27 Try.sizeOf27 hL.len (CellsAt.of_blk hb0)
  have HSZ : Hid _ := hsz
  have HB0 : Hid _ := hB0
  have q : (chk off no nb != 0) = true := by simp [hk]
  clear hsz hb0 hB0 hL
  generalize chk off no nb = k at *
  go_enter Try.func12, Try.ntmps12
  go_wp2_with ((with_reducible show wpList _ _ _ _ _ _); refine arm_load rfl (.tmp 1) 27 rfl rfl HLD.out ?_)
  refine Calls.mono (HSZ.out _) ?_
  rintro e1 w1 ⟨rfl, hb1⟩
  have hbl1 := HB0.out.trans (hb1.mono HB0.out.size)
  clear HSZ HLD hb1 HB0
  go_wp2
  go_ret2
  exact ⟨rfl, hbl1⟩

end Go.Proofs.Ytmoogfdmlbalbaa
