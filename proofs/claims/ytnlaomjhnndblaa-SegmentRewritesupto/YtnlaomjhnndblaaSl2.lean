/-
  whole of a segment of TCP.
-/
import Derived.Test.YtnlaomjhnndblaaSl1
import Derived.Test.YtnlaomjhnndblaaSg9
import Derived.Test.YtnlaomjhnndblaaSi6
import Derived.Test.YtnlaomjhnndblaaSi7
import Derived.Test.YtnlaomjhnndblaaRg
namespace Go.Proofs.Ytnlaomjhnndblaa
open Go Go.RowKit Go.Shelf
set_option linter.unusedVariables false
set_option linter.unusedSimpArgs false

theorem ex_nil {o : Oper} {a : Act} {W : World} (k : Nat) {p : Addr} (hop : o.op = Op.nilCheck (.tmp k)) (hk : a.eval (.tmp k) = .pointer (some p)) : (execOp a.eval o).run Try.prog W = .ok (.value (.pointer (some p))) W := by
  generalize a.eval = ev at *
  simp [execOp, hop, hk, go_sem]
theorem ex_fieldS {o : Oper} {a : Act} {W : World} (k i n : Nat) {b : Nat} (hop : o.op = Op.fieldAddr 123 (.tmp k) i) (hk : a.eval (.tmp k) = .pointer (some ⟨b, 0, none⟩)) (hi : (i = 0 ∧ n = 0) ∨ (i = 1 ∧ n = 1) ∨ (i = 2 ∧ n = 10)) :
    (execOp a.eval o).run Try.prog W = .ok (.value (.pointer (some ⟨b, n, none⟩))) W := by
  generalize a.eval = ev at *
  rcases hi with ⟨rfl, rfl⟩ | ⟨rfl, rfl⟩ | ⟨rfl, rfl⟩ <;> simp [execOp, hop, hk, go_sem]
theorem ex_field7 {o : Oper} {a : Act} {W : World} (k : Nat) {b : Nat} (hop : o.op = Op.fieldAddr 34 (.tmp k) 7) (hk : a.eval (.tmp k) = .pointer (some ⟨b, 1, none⟩)) :
    (execOp a.eval o).run Try.prog W = .ok (.value (.pointer (some ⟨b, 8, none⟩))) W := by
  generalize a.eval = ev at *
  simp [execOp, hop, hk, go_sem]
theorem ex_loadI {o : Oper} {a : Act} {W : World} (k : Nat) {p : Addr} {x : Int} (hop : o.op = Op.load 3 (.tmp k)) (hk : a.eval (.tmp k) = .pointer (some p)) (hc : W.cell? p = some (.int .i64 x)) :
    (execOp a.eval o).run Try.prog W = .ok (.value (.int .i64 x)) W := by
  generalize a.eval = ev at *
  simp [execOp, hop, hk, go_sem, hc]
theorem ex_sub20 {o : Oper} {a : Act} {W : World} (k : Nat) {t : TypeId} {n : Nat} (hop : o.op = Op.binOp .sub 3 (.tmp k) (.const (.int .i64 20)) t) (hk : a.eval (.tmp k) = .int .i64 (20 + (n : Int))) (hn : n ≤ 140737488351232) :
    (execOp a.eval o).run Try.prog W = .ok (.value (.int .i64 (n : Int))) W := by
  have hc : a.eval (.const (.int .i64 20)) = .int .i64 20 := rfl
  have e : IntKind.i64.wrap (20 + (n : Int) - 20) = (n : Int) := by rw [IntKind.wrap_i64]; omega
  generalize a.eval = ev at *
  simp [execOp, hop, hk, hc, go_sem, e]
theorem RowS.take {w : World} {s : Value} {ys : List Int} {b off cap : Nat} (h : RowS w s ys b off cap) (n : Nat) (hn : n ≤ ys.length) : RowS w (.slice (some ⟨b, off, none⟩) n cap) (ys.take n) b off cap := by
  have hl : (ys.take n).length = n := by simp; omega
  refine ⟨by rw [hl], by rw [hl]; exact Nat.le_trans hn h.room, h.lt, fun j hj => ?_, fun z hz => h.fit z (List.mem_of_mem_take hz), by rw [hl]; exact Nat.le_trans hn h.len⟩
  rw [hl] at hj
  rw [h.cell j (by omega)]
  simp [gz, List.getElem?_take, hj]
/-- Bytes that lie in memory made behind world w. -/
def New (w : World) (v : Value) (zs : List Int) : Prop := zs.length = 0 ∨ ∃ b off n k, v = .slice (some ⟨b, off, none⟩) n k ∧ w.heap.size ≤ b
theorem New.old {w w' : World} {v : Value} {zs : List Int} (h : New w' v zs) (hs : w.heap.size ≤ w'.heap.size) : New w v zs := h.imp id (fun ⟨b, off, n, k, e, hb⟩ => ⟨b, off, n, k, e, Nat.le_trans hs hb⟩)
theorem New.only {w W W' : World} {g : Nat} {v : Value} {zs : List Int} (h : New w v zs) (hg : g < w.heap.size) (hv : BytesAt W.heap.size W v zs) (ho : Only g W W') : BytesAt W'.heap.size W' v zs :=
  bytes_only hv ho (h.imp id (fun ⟨b, off, n, k, e, hb⟩ => ⟨b, off, n, k, e, Nat.lt_of_lt_of_le hg hb⟩))

set_option maxHeartbeats 2000000 in
set_option maxRecDepth 100000 in
theorem wholeT_calls (R b off cap n : Nat) (s d q k f wi u : Int) (ys : List Int) (wa w : World) (h : RdW wa w R 123 ys b off cap [.int .u16 s, .int .u16 d, .int .u32 q, .int .u32 k, .int .u8 f, .int .u16 wi, .int .u16 u, .slice none 0 0, .slice none 0 0, .int .i64 (20 + (n : Int))]) (hn : n ≤ ys.length) :
    Calls Try.prog 79 #[.pointer (some ⟨R, 0, none⟩)] w fun e w' => ∃ vo vd, e = .returned (.agg #[.int .u16 s, .int .u16 d, .int .u32 q, .int .u32 k, .int .u8 f, .int .u16 wi, .int .u16 u, vo, vd]) ∧ BytesAt w'.heap.size w' vo (ys.take n) ∧ BytesAt w'.heap.size w' vd (ys.drop n) ∧ New w vo (ys.take n) ∧ New w vd (ys.drop n) ∧ But R w w' := by
  have hR : R < w.heap.size := (Array.getElem?_eq_some_iff.1 h.blk).1
  obtain ⟨W0, hW0⟩ : ∃ W0, w.alloc (.cells [.int .u16 0, .int .u16 0, .int .u32 0, .int .u32 0, .int .u8 0, .int .u16 0, .int .u16 0, .slice none 0 0, .slice none 0 0].toArray 34) = W0 := ⟨_, rfl⟩
  have b0 := blk_new w (.cells [.int .u16 0, .int .u16 0, .int .u32 0, .int .u32 0, .int .u8 0, .int .u16 0, .int .u16 0, .slice none 0 0, .slice none 0 0].toArray 34)
  have hB0 := (Below.refl w.heap.size w).alloc (Nat.le_refl _) (.cells [.int .u16 0, .int .u16 0, .int .u32 0, .int .u32 0, .int .u8 0, .int .u16 0, .int .u16 0, .slice none 0 0, .slice none 0 0].toArray 34)
  have hs0 : W0.heap.size = w.heap.size + 1 := by rw [← hW0]; simp
  rw [hW0] at b0 hB0
  have hnl : n ≤ 140737488351232 := Nat.le_trans hn h.row.len
  have h0 := (h.on hB0).drew
  have c10 : W0.drew.cell? ⟨R, 10, none⟩ = some (.int .i64 (20 + (n : Int))) := blk_cell (j := 10) h0.blk rfl
  have HRUN : Hid (Calls Try.prog 80 #[.pointer (some ⟨R, 0, none⟩), .int .i64 n] W0.drew fun e w' => ∃ v, e = .returned v ∧ (v = .slice (some ⟨b, off, none⟩) n cap ∧ RdW wa w' R 123 (ys.drop n) b (nxt off cap n) (cap - n) [.int .u16 s, .int .u16 d, .int .u32 q, .int .u32 k, .int .u8 f, .int .u16 wi, .int .u16 u, .slice none 0 0, .slice none 0 0, .int .i64 (20 + (n : Int))] ∧ w'.heap.size = W0.heap.size ∧ But R W0 w')) := by
    have hc := run_calls6 R b off ys.length cap n W0.drew h0.c0 (blk_open h0.blk 0) hn h0.row.room
    refine hc.mono ?_
    rintro e w' ⟨rfl, rfl⟩
    exact ⟨_, rfl, rfl, h0.left n hn, ((Only.refl R W0.drew).set 0 _).size, (But.of_below (R := R) (Below.refl _ W0).drew).trans (.of_only ((Only.refl R W0.drew).set 0 _))⟩
  have htk := (h.row.take n hn).row.bytes
  have hwa : Below wa.heap.size wa w := h.bel
  have HTK : Hid (BytesAt wa.heap.size wa (.slice (some ⟨b, off, none⟩) n cap) (ys.take n)) := htk
  have HB0 : Hid _ := hB0
  have B0 : Hid _ := b0
  have ltk : (ys.take n).length = n := by simp; omega
  clear h h0 htk b0 hB0
  go_enter Try.func79, Try.ntmps79
  go_wp2_with fail
  refine region_mid (fun a a' w' => ∃ vo, a' = ((((((((((((((a.put (some 3) (.pointer (some ⟨R, 0, none⟩))).put (some 4) (.pointer (some ⟨R, 0, none⟩))).put (some 5) (.pointer (some ⟨R, 0, none⟩))).put (some 6) (.pointer (some ⟨R, 0, none⟩))).put (some 7) (.pointer (some ⟨R, 0, none⟩))).put (some 8) (.pointer (some ⟨R, 0, none⟩))).put (some 9) (.pointer (some ⟨R, 10, none⟩))).put (some 10) (.int .i64 (20 + (n : Int)))).put (some 11) (.int .i64 (n : Int))).put (some 12) (.slice (some ⟨b, off, none⟩) n cap)).put (some 13) (vo)).put (some 14) (.pointer (some ⟨R, 0, none⟩))).put (some 15) (.pointer (some ⟨R, 1, none⟩))).put (some 16) (.pointer (some ⟨R, 8, none⟩))) ∧ RdW wa w' R 123 (ys.drop n) b (nxt off cap n) (cap - n) [.int .u16 s, .int .u16 d, .int .u32 q, .int .u32 k, .int .u8 f, .int .u16 wi, .int .u16 u, vo, .slice none 0 0, .int .i64 (20 + (n : Int))] ∧ BytesAt w'.heap.size w' vo (ys.take n) ∧ New W0 vo (ys.take n) ∧ But R W0 w') ?_ ?_
  · skip
    refine wp_region_held (S := fun W => W.cell? ⟨R, 10, none⟩ = some (.int .i64 (20 + (n : Int)))) (by kernel_rfl) ?_
    show wpAnyH _ _ _ _ _ 15 (Array.replicate 15 false) _ W0.drew
    refine take_one (i := 0) (d := some 3) (v := .pointer (some ⟨R, 0, none⟩)) rfl rfl rfl (by kernel_rfl) (by kernel_rfl) (by kernel_rfl) (fun _ _ _ _ _ h => absurd h.1 (by simp)) (fun W hS => ex_move (.tmp 0) rfl rfl) c10 ?_
    simp only [Act.put, List.setIfInBounds_toArray, List.set_cons_zero, List.set_cons_succ]
    refine take_one (i := 1) (d := some 4) (v := .pointer (some ⟨R, 0, none⟩)) rfl rfl rfl (by kernel_rfl) (by kernel_rfl) (by kernel_rfl) (fun _ _ _ _ _ h => absurd h.1 (by simp)) (fun W hS => ex_move (.tmp 0) rfl rfl) c10 ?_
    simp only [Act.put, List.setIfInBounds_toArray, List.set_cons_zero, List.set_cons_succ]
    refine take_one (i := 2) (d := some 5) (v := .pointer (some ⟨R, 0, none⟩)) rfl rfl rfl (by kernel_rfl) (by kernel_rfl) (by kernel_rfl) (fun _ _ _ _ _ h => absurd h.1 (by simp)) (fun W hS => ex_nil 4 rfl rfl) c10 ?_
    simp only [Act.put, List.setIfInBounds_toArray, List.set_cons_zero, List.set_cons_succ]
    refine take_one (i := 3) (d := some 6) (v := .pointer (some ⟨R, 0, none⟩)) rfl rfl rfl (by kernel_rfl) (by kernel_rfl) (by kernel_rfl) (fun _ _ _ _ _ h => absurd h.1 (by simp)) (fun W hS => ex_fieldS 5 0 0 rfl rfl (.inl ⟨rfl, rfl⟩)) c10 ?_
    simp only [Act.put, List.setIfInBounds_toArray, List.set_cons_zero, List.set_cons_succ]
    refine take_one (i := 4) (d := some 7) (v := .pointer (some ⟨R, 0, none⟩)) rfl rfl rfl (by kernel_rfl) (by kernel_rfl) (by kernel_rfl) (fun _ _ _ _ _ h => absurd h.1 (by simp)) (fun W hS => ex_move (.tmp 0) rfl rfl) c10 ?_
    simp only [Act.put, List.setIfInBounds_toArray, List.set_cons_zero, List.set_cons_succ]
    refine take_one (i := 5) (d := some 8) (v := .pointer (some ⟨R, 0, none⟩)) rfl rfl rfl (by kernel_rfl) (by kernel_rfl) (by kernel_rfl) (fun _ _ _ _ _ h => absurd h.1 (by simp)) (fun W hS => ex_nil 7 rfl rfl) c10 ?_
    simp only [Act.put, List.setIfInBounds_toArray, List.set_cons_zero, List.set_cons_succ]
    refine take_one (i := 6) (d := some 9) (v := .pointer (some ⟨R, 10, none⟩)) rfl rfl rfl (by kernel_rfl) (by kernel_rfl) (by kernel_rfl) (fun _ _ _ _ _ h => absurd h.1 (by simp)) (fun W hS => ex_fieldS 8 2 10 rfl rfl (.inr (.inr ⟨rfl, rfl⟩))) c10 ?_
    simp only [Act.put, List.setIfInBounds_toArray, List.set_cons_zero, List.set_cons_succ]
    refine take_one (i := 7) (d := some 10) (v := .int .i64 (20 + (n : Int))) rfl rfl rfl (by kernel_rfl) (by kernel_rfl) (by kernel_rfl) (fun _ _ _ _ _ h => absurd h.1 (by simp)) (fun W hS => ex_loadI 9 rfl rfl hS) c10 ?_
    simp only [Act.put, List.setIfInBounds_toArray, List.set_cons_zero, List.set_cons_succ]
    refine take_one (i := 8) (d := some 11) (v := .int .i64 (n : Int)) rfl rfl rfl (by kernel_rfl) (by kernel_rfl) (by kernel_rfl) (fun _ _ _ _ _ h => absurd h.1 (by simp)) (fun W hS => ex_sub20 10 rfl rfl hnl) c10 ?_
    simp only [Act.put, List.setIfInBounds_toArray, List.set_cons_zero, List.set_cons_succ]
    refine all_one (i := 9) (by kernel_rfl) rfl rfl ?_
    refine wp_call (d := some 12) 80 _ rfl (by kernel_rfl) HRUN.out ?_
    rintro _ w1 ⟨rfl, h1, hs1, hbt1⟩
    refine ⟨blk_cell (j := 10) h1.blk rfl, ?_⟩
    simp only [Act.put, List.setIfInBounds_toArray, List.set_cons_zero, List.set_cons_succ]
    have hc1 : Calls Try.prog 56 #[.slice (some ⟨b, off, none⟩) n cap] w1 fun e w2 => ∃ u, e = .returned u ∧ (BytesAt w2.heap.size w2 u (ys.take n) ∧ Below w1.heap.size w1 w2 ∧ New w1 u (ys.take n)) := Clone_calls _ _ w1 (HTK.out.later h1.bel)
    refine all_one (i := 10) (by kernel_rfl) rfl rfl ?_
    refine wp_call (d := some 13) 56 _ rfl (by kernel_rfl) hc1 ?_
    rintro vo w2 ⟨hvo, hb2, hl2⟩
    have h2 := h1.on hb2
    refine ⟨blk_cell (j := 10) h2.blk rfl, ?_⟩
    simp only [Act.put, List.setIfInBounds_toArray, List.set_cons_zero, List.set_cons_succ]
    have d10 : w2.cell? ⟨R, 10, none⟩ = some (.int .i64 (20 + (n : Int))) := blk_cell (j := 10) h2.blk rfl
    refine take_one (i := 11) (d := some 14) (v := .pointer (some ⟨R, 0, none⟩)) rfl rfl rfl (by kernel_rfl) (by kernel_rfl) (by kernel_rfl) (fun _ _ _ _ _ h => absurd h.1 (by simp)) (fun W hS => ex_nil 3 rfl rfl) d10 ?_
    simp only [Act.put, List.setIfInBounds_toArray, List.set_cons_zero, List.set_cons_succ]
    refine take_one (i := 12) (d := some 15) (v := .pointer (some ⟨R, 1, none⟩)) rfl rfl rfl (by kernel_rfl) (by kernel_rfl) (by kernel_rfl) (fun _ _ _ _ _ h => absurd h.1 (by simp)) (fun W hS => ex_fieldS 14 1 1 rfl rfl (.inr (.inl ⟨rfl, rfl⟩))) d10 ?_
    simp only [Act.put, List.setIfInBounds_toArray, List.set_cons_zero, List.set_cons_succ]
    refine take_one (i := 13) (d := some 16) (v := .pointer (some ⟨R, 8, none⟩)) rfl rfl rfl (by kernel_rfl) (by kernel_rfl) (by kernel_rfl) (fun _ _ _ _ _ h => absurd h.1 (by simp)) (fun W hS => ex_field7 15 rfl rfl) d10 ?_
    simp only [Act.put, List.setIfInBounds_toArray, List.set_cons_zero, List.set_cons_succ]
    have h3 := h2.sets 7 8 vo rfl
    obtain ⟨ao, co, eo, _⟩ := hvo.val
    have hl0 : New W0 vo (ys.take n) := hl2.old (by omega)
    have hvo3 := hl0.only (by omega : R < W0.heap.size) hvo ((Only.refl R w2).set 8 vo)
    have hbt3 : But R W0 (w2.setCell ⟨R, 8, none⟩ vo) := (hbt1.trans (.of_below hb2)).trans (.of_only ((Only.refl R w2).set 8 vo))
    refine all_one (i := 14) (by kernel_rfl) rfl rfl ?_
    refine wp_store 16 13 rfl rfl rfl rfl ⟨_, _, _, eo⟩ (by rw [blk_cell (j := 8) h2.blk rfl]; rfl) (blk_open h2.blk 8) ⟨blk_cell (j := 10) h3.blk rfl, ?_⟩
    refine wpAnyH_done (by kernel_rfl) ?_ _
    exact ⟨rfl, vo, rfl, h3, hvo3, hl0, hbt3⟩
  · rintro _ w3 ⟨vo, rfl, h3, hvo, hl0, hbt⟩
    simp only [Act.put, List.setIfInBounds_toArray, List.set_cons_zero, List.set_cons_succ]
    obtain ⟨yd, hyd⟩ : ∃ yd, ys.drop n = yd := ⟨_, rfl⟩
    obtain ⟨yt, hyt⟩ : ∃ yt, ys.take n = yt := ⟨_, rfl⟩
    rw [hyd] at h3
    rw [hyt] at hvo hl0
    have HYD : Hid _ := hyd
    have HYT : Hid _ := hyt
    clear hyd hyt
    have c0 := h3.c0
    have HC2 : Hid _ := Clone_calls _ _ w3 (h3.row.row.bytes.later h3.bel)
    have H3 : Hid _ := h3
    have HVO : Hid _ := hvo
    have HL0 : Hid _ := hl0
    have HBT : Hid _ := hbt
    clear h3 hvo hl0 hbt c10 HRUN HTK ltk
    go_wp2_with fail
    refine Calls.mono HC2.out ?_
    rintro _ w4 ⟨vd, rfl, hvd, hb4, hloc⟩
    have h4 := H3.out.on hb4
    have c9 := blk_cell (j := 9) h4.blk rfl
    have f9 := blk_open h4.blk 9
    have hsW : W0.heap.size ≤ w3.heap.size := HBT.out.size
    have hlv : New W0 vd yd := (show New w3 vd yd from hloc).old hsW
    obtain ⟨ad, cd, rfl, _⟩ := hvd.val
    have h5 := h4.sets 8 9 (.slice ad yd.length cd) rfl
    have hon5 := (Only.refl R w4).set 9 (.slice ad yd.length cd)
    have hvd5 := hlv.only (by omega : R < W0.heap.size) hvd hon5
    have hvo5 := New.only HL0.out (by omega : R < W0.heap.size) (HVO.out.later hb4) hon5
    have hbt5 := (HBT.out.trans (.of_below hb4)).trans (.of_only hon5)
    obtain ⟨ao, co, eo, _⟩ := HVO.out.val
    subst eo
    have HL : Hid _ := agg_load (t := 34) Try.isAgg34 Try.sizeOf34 (vs := [.int .u16 s, .int .u16 d, .int .u32 q, .int .u32 k, .int .u8 f, .int .u16 wi, .int .u16 u, .slice ao yt.length co, .slice ad yd.length cd]) rfl (CellsAt.part (xs := [.slice (some ⟨b, nxt off cap n, none⟩) yd.length (cap - n)]) (ys := [.int .u16 s, .int .u16 d, .int .u32 q, .int .u32 k, .int .u8 f, .int .u16 wi, .int .u16 u, .slice ao yt.length co, .slice ad yd.length cd]) (zs := [.int .i64 (20 + (n : Int))]) (CellsAt.of_blk h5.blk))
    have b05 := hbt5.blk B0.out (by omega : w.heap.size ≠ R)
    obtain ⟨wE, hst, bE, hon⟩ := box_store Try.sizeOf34 b05 rfl [.int .u16 s, .int .u16 d, .int .u32 q, .int .u32 k, .int .u8 f, .int .u16 wi, .int .u16 u, .slice ao yt.length co, .slice ad yd.length cd] rfl (by simp [Value.oneCell'])
    have HST : Hid _ := hst
    have BE : Hid _ := bE
    have hlo : New W0 (.slice ao yt.length co) yt := HL0.out
    have HVDE : Hid _ := hlv.only (by omega : w.heap.size < W0.heap.size) hvd5 hon
    have HVOE : Hid _ := hlo.only (by omega : w.heap.size < W0.heap.size) hvo5 hon
    have HBE : Hid (But R w wE) := ((But.of_below (R := R) HB0.out).trans hbt5).off hon (Nat.le_refl _)
    have HN1 : Hid (New w (.slice ao yt.length co) yt) := hlo.old (by omega)
    have HN2 : Hid (New w (.slice ad yd.length cd) yd) := hlv.old (by omega)
    clear hst bE hon hlo hlv hvd5 hvo5 hbt5 b05 h5 h4 hvd hb4 hloc HC2 H3 HVO HL0 HBT hon5 c0
    go_wp2_with first
      | ((with_reducible show wpList _ _ _ _ _ _); refine arm_load rfl (.tmp 29) 34 rfl rfl HL.out ?_)
      | ((with_reducible show wpList _ _ _ _ _ _); refine arm_store rfl (.tmp 2) (.tmp 30) 34 rfl rfl rfl HST.out ?_)
    obtain rfl := HYD.out
    obtain rfl := HYT.out
    exact bodyPost_ret (res1t rfl rfl (agg_loadVar Try.isAgg34 Try.sizeOf34 rfl (CellsAt.of_blk BE.out))) rfl ⟨_, _, rfl, HVOE.out, HVDE.out, HN1.out, HN2.out, HBE.out⟩

end Go.Proofs.Ytnlaomjhnndblaa
