/-
  Same of the document's answer.
-/
import Derived.Test.YtmoogfdmlbalbaaIp11
namespace Go.Proofs.Ytmoogfdmlbalbaa
open Go Go.RowKit
set_option linter.unusedVariables false
set_option linter.unusedSimpArgs false

set_option maxHeartbeats 4000000 in
set_option maxRecDepth 100000 in
theorem RSame_calls {c c' : List Value} {tos id : Int} {df mf : Bool} {off ttl proto s0 s1 s2 s3 d0 d1 d2 d3 : Int} {opts body : List Int} {tos' id' : Int} {df' mf' : Bool} {off' ttl' proto' s0' s1' s2' s3' d0' d1' d2' d3' : Int} {opts' body' : List Int} (w : World) (h : Dgram w c tos id df mf off ttl proto s0 s1 s2 s3 d0 d1 d2 d3 opts body) (h' : Dgram w c' tos' id' df' mf' off' ttl' proto' s0' s1' s2' s3' d0' d1' d2' d3' opts' body') :
    Calls Try.prog 22 #[.agg c.toArray, .agg c'.toArray] w fun e w' => e = .returned (.bool (sameB tos id df mf off ttl proto s0 s1 s2 s3 d0 d1 d2 d3 opts body tos' id' df' mf' off' ttl' proto' s0' s1' s2' s3' d0' d1' d2' d3' opts' body')) ∧ Below w.heap.size w w' := by
  have fs := h.fs
  have fd := h.fd
  have fs' := h'.fs
  have fd' := h'.fd
  have hl := h.lens.len
  have hl' := h'.lens.len
  obtain ⟨so, sb, hc, ho, hb⟩ := h.cells
  obtain ⟨so', sb', hc', ho', hb'⟩ := h'.cells
  have q0 : c[0]? = some (.int .u8 tos) := by rw [hc.eq]; rfl
  have p0 : c'[0]? = some (.int .u8 tos') := by rw [hc'.eq]; rfl
  have q1 : c[1]? = some (.int .u16 id) := by rw [hc.eq]; rfl
  have p1 : c'[1]? = some (.int .u16 id') := by rw [hc'.eq]; rfl
  have q2 : c[2]? = some (.bool df) := by rw [hc.eq]; rfl
  have p2 : c'[2]? = some (.bool df') := by rw [hc'.eq]; rfl
  have q3 : c[3]? = some (.bool mf) := by rw [hc.eq]; rfl
  have p3 : c'[3]? = some (.bool mf') := by rw [hc'.eq]; rfl
  have q4 : c[4]? = some (.int .i64 off) := by rw [hc.eq]; rfl
  have p4 : c'[4]? = some (.int .i64 off') := by rw [hc'.eq]; rfl
  have q5 : c[5]? = some (.int .u8 ttl) := by rw [hc.eq]; rfl
  have p5 : c'[5]? = some (.int .u8 ttl') := by rw [hc'.eq]; rfl
  have q6 : c[6]? = some (.int .u8 proto) := by rw [hc.eq]; rfl
  have p6 : c'[6]? = some (.int .u8 proto') := by rw [hc'.eq]; rfl
  have q7 : c[7]? = some (.int .u8 s0) := by rw [hc.eq]; rfl
  have p7 : c'[7]? = some (.int .u8 s0') := by rw [hc'.eq]; rfl
  have q8 : c[8]? = some (.int .u8 s1) := by rw [hc.eq]; rfl
  have p8 : c'[8]? = some (.int .u8 s1') := by rw [hc'.eq]; rfl
  have q9 : c[9]? = some (.int .u8 s2) := by rw [hc.eq]; rfl
  have p9 : c'[9]? = some (.int .u8 s2') := by rw [hc'.eq]; rfl
  have q10 : c[10]? = some (.int .u8 s3) := by rw [hc.eq]; rfl
  have p10 : c'[10]? = some (.int .u8 s3') := by rw [hc'.eq]; rfl
  have q11 : c[11]? = some (.int .u8 d0) := by rw [hc.eq]; rfl
  have p11 : c'[11]? = some (.int .u8 d0') := by rw [hc'.eq]; rfl
  have q12 : c[12]? = some (.int .u8 d1) := by rw [hc.eq]; rfl
  have p12 : c'[12]? = some (.int .u8 d1') := by rw [hc'.eq]; rfl
  have q13 : c[13]? = some (.int .u8 d2) := by rw [hc.eq]; rfl
  have p13 : c'[13]? = some (.int .u8 d2') := by rw [hc'.eq]; rfl
  have q14 : c[14]? = some (.int .u8 d3) := by rw [hc.eq]; rfl
  have p14 : c'[14]? = some (.int .u8 d3') := by rw [hc'.eq]; rfl
  have q15 : c[15]? = some (so) := by rw [hc.eq]; rfl
  have p15 : c'[15]? = some (so') := by rw [hc'.eq]; rfl
  have q16 : c[16]? = some (sb) := by rw [hc.eq]; rfl
  have p16 : c'[16]? = some (sb') := by rw [hc'.eq]; rfl
  have hB := ((Below.refl w.heap.size w).alloc (Nat.le_refl _) (.cells c.toArray 27)).alloc (by simp) (.cells c'.toArray 27)
  have e7 : ∀ W, (Op.equalIn 10000 24 (.agg #[.int .u8 s0, .int .u8 s1, .int .u8 s2, .int .u8 s3]) (.agg #[.int .u8 s0', .int .u8 s1', .int .u8 s2', .int .u8 s3'])).run Try.prog W = .ok (decide ([s0, s1, s2, s3] = [s0', s1', s2', s3'])) W := fun W => eq_arr4 9998 [s0, s1, s2, s3] [s0', s1', s2', s3'] fs fs' rfl rfl W
  have e8 : ∀ W, (Op.equalIn 10000 24 (.agg #[.int .u8 d0, .int .u8 d1, .int .u8 d2, .int .u8 d3]) (.agg #[.int .u8 d0', .int .u8 d1', .int .u8 d2', .int .u8 d3'])).run Try.prog W = .ok (decide ([d0, d1, d2, d3] = [d0', d1', d2', d3'])) W := fun W => eq_arr4 9998 [d0, d1, d2, d3] [d0', d1', d2', d3'] fd fd' rfl rfl W
  have t9 := fun (W : World) (hW : Below w.heap.size w W) => (ho.below hW).text
  have u9 := fun (W : World) (hW : Below w.heap.size w W) => (ho'.below hW).text
  have t10 := fun (W : World) (hW : Below w.heap.size w W) => (hb.below hW).text
  have u10 := fun (W : World) (hW : Below w.heap.size w W) => (hb'.below hW).text
  have t9 := t9 _ hB
  have t10 := t10 _ hB
  have u9 := u9 _ hB
  have u10 := u10 _ hB
  clear ho ho' hb hb' hc hc' h h' hl hl' fs fd fs' fd'
  unfold sameB
  generalize strOfNums opts = X at *
  generalize strOfNums opts' = X' at *
  generalize strOfNums body = Y at *
  generalize strOfNums body' = Y' at *
  generalize decide ([s0, s1, s2, s3] = [s0', s1', s2', s3']) = x8 at *
  generalize decide ([d0, d1, d2, d3] = [d0', d1', d2', d3']) = x9 at *
  generalize hx1 : (tos == tos') = x1
  generalize hx2 : (id == id') = x2
  generalize hx3 : (df == df') = x3
  generalize hx4 : (mf == mf') = x4
  generalize hx5 : (off == off') = x5
  generalize hx6 : (ttl == ttl') = x6
  generalize hx7 : (proto == proto') = x7
  generalize hx10 : (X.toList == X'.toList) = x10
  generalize hx11 : (Y.toList == Y'.toList) = x11
  generalize hr : (x1 && x2 && x3 && x4 && x5 && x6 && x7 && x8 && x9 && x10 && x11) = r
  have HR : Hid _ := hr
  have HB : Hid _ := hB
  clear hr hB
  go_enter Try.func22, Try.ntmps22
  go_wp2
  all_goals
    go_ret
    refine ⟨congrArg (fun b => Ending.returned (.bool b)) ?_, HB.out⟩
    rw [← HR.out]
    simp [*]

end Go.Proofs.Ytmoogfdmlbalbaa
