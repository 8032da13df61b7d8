/-
  A reader of package ipv6: run, octet, word, long.
-/
import Derived.Test.YtbaeogoojpngbaaY5
namespace Go.Proofs.Ytbaeogoojpngbaa
open Go Go.RowKit
set_option linter.unusedVariables false
set_option linter.unusedSimpArgs false

theorem cv816 {o : Oper} {a : Act} {W : World} (p : Operand) (hop : o.op = Op.convert 5 48 p) {x : Int} (hp : a.eval p = .int .u8 x) (h : 0 ≤ x ∧ x < 256) : (execOp a.eval o).run Try.prog W = .ok (.value (.int .u16 x)) W := by
  have e : IntKind.u16.wrap x = x := by have e : x % 65536 = x := by omega
                                        simp [IntKind.wrap, IntKind.signed, IntKind.bits, e]
  generalize a.eval = ev at *
  simp [execOp, hop, hp, go_sem, e]
theorem shl8 {o : Oper} {a : Act} {W : World} (p : Operand) {t : TypeId} (hop : o.op = Op.binOp .shl 48 p (.const (.int .u64 8)) t) {x : Int} (hp : a.eval p = .int .u16 x) (h : x * 256 % 65536 = x * 256) : (execOp a.eval o).run Try.prog W = .ok (.value (.int .u16 (x * 256))) W := by
  have hc : a.eval (.const (.int .u64 8)) = .int .u64 8 := rfl
  have e : IntKind.u16.wrap (x * 256) = x * 256 := by simp [IntKind.wrap, IntKind.signed, IntKind.bits, h]
  generalize a.eval = ev at *
  simp [execOp, hop, hp, hc, go_sem, e]
theorem or16 {o : Oper} {a : Act} {W : World} (p q : Operand) {t : TypeId} (hop : o.op = Op.binOp .or 48 p q t) {x y z : Int} (hp : a.eval p = .int .u16 x) (hq : a.eval q = .int .u16 y) (hz : bits .or .u16 x y = z) : (execOp a.eval o).run Try.prog W = .ok (.value (.int .u16 z)) W := by
  generalize a.eval = ev at *
  simp [execOp, hop, hp, hq, go_sem, hz]

/-- A reader's cells: what is left, where it begins, the datagram's cells, what is said to stand there. -/
def rC (left : Value) (at' : Nat) (c : List Value) (nx : Int) : List Value := left :: .int .i64 (at' : Int) :: (c ++ [.int .u8 nx])
abbrev RBox (left : Value) (at' : Nat) (c : List Value) (nx : Int) : Obj := .cells (rC left at' c nx).toArray 76
theorem rC_len (left : Value) (at' : Nat) (c : List Value) (nx : Int) : (rC left at' c nx).length = c.length + 3 := by simp [rC]
/-- A reader in its box, over bytes that are left. -/
structure RB (S : Nat → Prop) (W : World) (R : Nat) (rest : List Int) (at' : Nat) (c : List Value) (nx : Int) (left : Value) : Prop where
  box : W.heap[R]? = some (RBox left at' c nx)
  byt : BS S W left rest
  ne : ¬ S R
  hi : at' ≤ 1000000000000000
section
variable {S : Nat → Prop} {W W' : World} {R : Nat} {rest : List Int} {at' : Nat} {c : List Value} {nx : Int} {left : Value}
theorem RB.on (h : RB S W R rest at' c nx left) (hb : Below W.heap.size W W') : RB S W' R rest at' c nx left := ⟨blk_on h.box hb, h.byt.on hb, h.ne, h.hi⟩
theorem RB.k0 (h : RB S W R rest at' c nx left) : W.cell? ⟨R, 0, none⟩ = some left := blk_cell h.box rfl
theorem RB.k1 (h : RB S W R rest at' c nx left) : W.cell? ⟨R, 1, none⟩ = some (.int .i64 at') := blk_cell h.box rfl
theorem RB.at (h : RB S W R rest at' c nx left) {j : Nat} {v : Value} (hj : c[j]? = some v) : W.cell? ⟨R, j + 2, none⟩ = some v := by
  refine blk_cell h.box ?_
  unfold rC
  simp only [List.getElem?_cons_succ]
  rw [List.getElem?_append_left (List.getElem?_eq_some_iff.1 hj).1]
  exact hj
theorem RB.put (h : RB S W R rest at' c nx left) {j : Nat} (hj : j < c.length) (v : Value) : RB S (W.setCell ⟨R, j + 2, none⟩ v) R rest at' (c.set j v) nx left := by
  refine ⟨?_, h.byt.sep (Sep.of_only (O := fun b => b = R) ((Only.refl R W).set _ _) rfl) (fun b hb e => h.ne (e ▸ hb)), h.ne, h.hi⟩
  rw [blk_set h.box]
  unfold rC
  simp only [List.set_cons_succ]
  rw [List.set_append_left _ _ hj]
  rfl
theorem RB.next (h : RB S W R rest at' c nx left) (v : Int) {n : Nat} (hn : c.length = n) : RB S (W.setCell ⟨R, n + 2, none⟩ (.int .u8 v)) R rest at' c v left := by
  refine ⟨?_, h.byt.sep (Sep.of_only (O := fun b => b = R) ((Only.refl R W).set _ _) rfl) (fun b hb e => h.ne (e ▸ hb)), h.ne, h.hi⟩
  rw [blk_set h.box]
  unfold rC
  simp only [List.set_cons_succ]
  rw [← hn, List.set_append_right _ _ (Nat.le_refl _), Nat.sub_self]
  rfl
end
section
variable {S : Nat → Prop} {W : World} {R : Nat} {rest : List Int} {at' : Nat} {c : List Value} {nx : Int} {left : Value}
set_option maxHeartbeats 4000000 in
set_option maxRecDepth 100000 in
theorem run_calls (h : RB S W R rest at' c nx left) (n : Nat) (hn : n ≤ rest.length) (hp : 0 < rest.length) (hlim : at' + n ≤ 1000000000000000) :
    Calls Try.prog 47 #[.pointer (some ⟨R, 0, none⟩), .int .i64 n] W fun e w' => ∃ u left', e = .returned u ∧ (BS S w' u (rest.take n) ∧ RB S w' R (rest.drop n) (at' + n) c nx left' ∧ Only R W w') := by
  obtain ⟨u1, hu1, hb1⟩ := cut_front h.byt hp n hn
  obtain ⟨u2, hu2, hb2⟩ := cut_rest h.byt hp n hn
  have hls := h.byt.slc
  have hs1 := hb1.slc
  have hs2 := hb2.slc
  have k0 := h.k0
  have HU1 : Hid _ := hu1
  have HU2 : Hid _ := hu2
  have HB1 : Hid (BS S W u1 (rest.take n)) := hb1
  have HB2 : Hid (BS S W u2 (rest.drop n)) := hb2
  have HH : Hid (RB S W R rest at' c nx left) := h
  obtain ⟨xl, nl, ml, rfl⟩ := hls
  obtain ⟨x1, n1, m1, rfl⟩ := hs1
  have hsum : -9223372036854775808 ≤ (at' : Int) + (n : Int) ∧ (at' : Int) + (n : Int) ≤ 9223372036854775807 := by omega
  clear h hu1 hu2 hb1 hb2
  go_enter Try.func47, Try.ntmps47
  go_wp2_with first
    | ((with_reducible show wpList _ _ _ ({ dst := _, op := Op.slice 26 (Operand.tmp 9) none (some (Operand.tmp 10)) none, type := _, pos := _, after := _, guard := _ } :: _) _ _); refine arm_slice rfl 26 (.tmp 9) none (some (Operand.tmp 10)) rfl rfl rfl rfl (HU1.out _) ?_)
  clear k0
  refine region_mid (fun a0 a' w' => a' = ((((((((((((((((((a0.put (some 12) (.pointer (some ⟨R, 0, none⟩))).put (some 13) (.pointer (some ⟨R, 0, none⟩))).put (some 14) (.pointer (some ⟨R, 0, none⟩))).put (some 15) (.pointer (some ⟨R, 0, none⟩))).put (some 16) (.pointer (some ⟨R, 0, none⟩))).put (some 18) (.int .i64 (n : Nat))).put (some 20) (.pointer (some ⟨R, 0, none⟩))).put (some 21) (.pointer (some ⟨R, 0, none⟩))).put (some 22) (.pointer (some ⟨R, 1, none⟩))).put (some 24) (.int .i64 (n : Nat))).put (some 17) (.slice xl nl ml)).put (some 19) (u2)).put (some 23) (.int .i64 (at' : Nat))).put (some 25) (.int .i64 ((at' + n : Nat) : Int))).put (some 26) (.pointer (some ⟨R, 0, none⟩))).put (some 27) (.pointer (some ⟨R, 0, none⟩))).put (some 28) (.pointer (some ⟨R, 0, none⟩))).put (some 29) (.pointer (some ⟨R, 1, none⟩))) ∧ BS S w' (.slice x1 n1 m1) (rest.take n) ∧ RB S w' R (rest.drop n) (at' + n) c nx u2 ∧ Only R W w') ?_ ?_
  · skip
    refine wp_region_held (S := fun _ => True) (by kernel_rfl) ?_
    show wpAnyH _ _ _ _ _ 20 (Array.replicate 20 false) _ _
    have hb0 : W.drew.heap[R]? = some (RBox (.slice xl nl ml) at' c nx) := HH.out.box
    refine take_one (i := 0) (d := some 12) (v := .pointer (some ⟨R, 0, none⟩)) rfl rfl rfl (by kernel_rfl) (by kernel_rfl) (by kernel_rfl) (fun _ _ _ _ _ h => h.elim) (fun W hS => by kernel_rfl) trivial ?_
    simp only [Act.put, List.setIfInBounds_toArray, List.set_cons_zero, List.set_cons_succ]
    refine take_one (i := 1) (d := some 13) (v := .pointer (some ⟨R, 0, none⟩)) rfl rfl rfl (by kernel_rfl) (by kernel_rfl) (by kernel_rfl) (fun _ _ _ _ _ h => h.elim) (fun W hS => by kernel_rfl) trivial ?_
    simp only [Act.put, List.setIfInBounds_toArray, List.set_cons_zero, List.set_cons_succ]
    refine take_one (i := 2) (d := some 14) (v := .pointer (some ⟨R, 0, none⟩)) rfl rfl rfl (by kernel_rfl) (by kernel_rfl) (by kernel_rfl) (fun _ _ _ _ _ h => h.elim) (fun W hS => by kernel_rfl) trivial ?_
    simp only [Act.put, List.setIfInBounds_toArray, List.set_cons_zero, List.set_cons_succ]
    refine take_one (i := 3) (d := some 15) (v := .pointer (some ⟨R, 0, none⟩)) rfl rfl rfl (by kernel_rfl) (by kernel_rfl) (by kernel_rfl) (fun _ _ _ _ _ h => h.elim) (fun W hS => by kernel_rfl) trivial ?_
    simp only [Act.put, List.setIfInBounds_toArray, List.set_cons_zero, List.set_cons_succ]
    refine take_one (i := 4) (d := some 16) (v := .pointer (some ⟨R, 0, none⟩)) rfl rfl rfl (by kernel_rfl) (by kernel_rfl) (by kernel_rfl) (fun _ _ _ _ _ h => h.elim) (fun W hS => by kernel_rfl) trivial ?_
    simp only [Act.put, List.setIfInBounds_toArray, List.set_cons_zero, List.set_cons_succ]
    refine take_one (i := 6) (d := some 18) (v := .int .i64 (n : Nat)) rfl rfl rfl (by kernel_rfl) (by kernel_rfl) (by kernel_rfl) (fun _ _ _ _ _ h => h.elim) (fun W hS => by kernel_rfl) trivial ?_
    simp only [Act.put, List.setIfInBounds_toArray, List.set_cons_zero, List.set_cons_succ]
    refine take_one (i := 8) (d := some 20) (v := .pointer (some ⟨R, 0, none⟩)) rfl rfl rfl (by kernel_rfl) (by kernel_rfl) (by kernel_rfl) (fun _ _ _ _ _ h => h.elim) (fun W hS => by kernel_rfl) trivial ?_
    simp only [Act.put, List.setIfInBounds_toArray, List.set_cons_zero, List.set_cons_succ]
    refine take_one (i := 9) (d := some 21) (v := .pointer (some ⟨R, 0, none⟩)) rfl rfl rfl (by kernel_rfl) (by kernel_rfl) (by kernel_rfl) (fun _ _ _ _ _ h => h.elim) (fun W hS => by kernel_rfl) trivial ?_
    simp only [Act.put, List.setIfInBounds_toArray, List.set_cons_zero, List.set_cons_succ]
    refine take_one (i := 10) (d := some 22) (v := .pointer (some ⟨R, 1, none⟩)) rfl rfl rfl (by kernel_rfl) (by kernel_rfl) (by kernel_rfl) (fun _ _ _ _ _ h => h.elim) (fun W hS => by kernel_rfl) trivial ?_
    simp only [Act.put, List.setIfInBounds_toArray, List.set_cons_zero, List.set_cons_succ]
    refine take_one (i := 12) (d := some 24) (v := .int .i64 (n : Nat)) rfl rfl rfl (by kernel_rfl) (by kernel_rfl) (by kernel_rfl) (fun _ _ _ _ _ h => h.elim) (fun W hS => by kernel_rfl) trivial ?_
    simp only [Act.put, List.setIfInBounds_toArray, List.set_cons_zero, List.set_cons_succ]
    refine all_two (i1 := 5) (i2 := 11) (by kernel_rfl) rfl rfl rfl rfl ?_ ?_
    · refine wp_loadA (d := some 17) (.tmp 16) 26 rfl rfl rfl (ld_row (blk_cell (j := 0) hb0 rfl) ⟨_, _, _, rfl⟩) ⟨trivial, ?_⟩
      simp only [Act.put, List.setIfInBounds_toArray, List.set_cons_zero, List.set_cons_succ]
      refine take_one (i := 7) (d := some 19) (v := u2) rfl rfl rfl (by kernel_rfl) (by kernel_rfl) (by kernel_rfl) (fun _ _ _ _ _ h => h.elim) (fun W hS => ex_slice 26 (.tmp 17) (some (.tmp 18)) none rfl rfl rfl rfl (HU2.out W)) trivial ?_
      simp only [Act.put, List.setIfInBounds_toArray, List.set_cons_zero, List.set_cons_succ]
      refine all_one (i := 11) (by kernel_rfl) rfl rfl ?_
      refine wp_loadA (d := some 23) (.tmp 22) 3 rfl rfl rfl (ld_int (blk_cell (j := 1) hb0 rfl)) ⟨trivial, ?_⟩
      simp only [Act.put, List.setIfInBounds_toArray, List.set_cons_zero, List.set_cons_succ]
      refine take_one (i := 13) (d := some 25) (v := .int .i64 ((at' + n : Nat) : Int)) rfl rfl rfl (by kernel_rfl) (by kernel_rfl) (by kernel_rfl) (fun _ _ _ _ _ h => h.elim) (fun W hS => ex_addE (.tmp 23) (.tmp 24) rfl rfl rfl (by omega) (by omega)) trivial ?_
      simp only [Act.put, List.setIfInBounds_toArray, List.set_cons_zero, List.set_cons_succ]
      refine take_one (i := 14) (d := some 26) (v := .pointer (some ⟨R, 0, none⟩)) rfl rfl rfl (by kernel_rfl) (by kernel_rfl) (by kernel_rfl) (fun _ _ _ _ _ h => h.elim) (fun W hS => by kernel_rfl) trivial ?_
      simp only [Act.put, List.setIfInBounds_toArray, List.set_cons_zero, List.set_cons_succ]
      refine take_one (i := 15) (d := some 27) (v := .pointer (some ⟨R, 0, none⟩)) rfl rfl rfl (by kernel_rfl) (by kernel_rfl) (by kernel_rfl) (fun _ _ _ _ _ h => h.elim) (fun W hS => by kernel_rfl) trivial ?_
      simp only [Act.put, List.setIfInBounds_toArray, List.set_cons_zero, List.set_cons_succ]
      have hb1 : (W.drew.setCell ⟨R, 0, none⟩ u2).heap[R]? = some (RBox u2 at' c nx) := blk_set hb0 0 u2
      refine all_one (i := 16) (by kernel_rfl) rfl rfl ?_
      refine wp_storeA (.tmp 27) (.tmp 19) 26 rfl rfl rfl rfl (st_row hb0 (by rw [rC_len]; omega) hs2) ⟨trivial, ?_⟩
      refine take_one (i := 17) (d := some 28) (v := .pointer (some ⟨R, 0, none⟩)) rfl rfl rfl (by kernel_rfl) (by kernel_rfl) (by kernel_rfl) (fun _ _ _ _ _ h => h.elim) (fun W hS => by kernel_rfl) trivial ?_
      simp only [Act.put, List.setIfInBounds_toArray, List.set_cons_zero, List.set_cons_succ]
      refine take_one (i := 18) (d := some 29) (v := .pointer (some ⟨R, 1, none⟩)) rfl rfl rfl (by kernel_rfl) (by kernel_rfl) (by kernel_rfl) (fun _ _ _ _ _ h => h.elim) (fun W hS => by kernel_rfl) trivial ?_
      simp only [Act.put, List.setIfInBounds_toArray, List.set_cons_zero, List.set_cons_succ]
      have hb3 : ((W.drew.setCell ⟨R, 0, none⟩ u2).setCell ⟨R, 1, none⟩ (.int .i64 ((at' + n : Nat) : Int))).heap[R]? = some (RBox u2 (at' + n) c nx) := blk_set hb1 1 _
      refine all_one (i := 19) (by kernel_rfl) rfl rfl ?_
      refine wp_storeA (.tmp 29) (.tmp 25) 3 rfl rfl rfl rfl (st_int hb1 (by rw [rC_len]; omega) _) ⟨trivial, ?_⟩
      refine wpAnyH_done (by kernel_rfl) ?_ _
      have ho : Only R W _ := (((Only.refl R W).drew).set 0 u2).set 1 (.int .i64 ((at' + n : Nat) : Int))
      have hsp := Sep.of_only (O := fun b => b = R) ho rfl
      exact ⟨rfl, HB1.out.sep hsp (fun b hb e => HH.out.ne (e ▸ hb)), ⟨hb3, HB2.out.sep hsp (fun b hb e => HH.out.ne (e ▸ hb)), HH.out.ne, hlim⟩, ho⟩
    · refine wp_loadA (d := some 23) (.tmp 22) 3 rfl rfl rfl (ld_int (blk_cell (j := 1) hb0 rfl)) ⟨trivial, ?_⟩
      simp only [Act.put, List.setIfInBounds_toArray, List.set_cons_zero, List.set_cons_succ]
      refine take_one (i := 13) (d := some 25) (v := .int .i64 ((at' + n : Nat) : Int)) rfl rfl rfl (by kernel_rfl) (by kernel_rfl) (by kernel_rfl) (fun _ _ _ _ _ h => h.elim) (fun W hS => ex_addE (.tmp 23) (.tmp 24) rfl rfl rfl (by omega) (by omega)) trivial ?_
      simp only [Act.put, List.setIfInBounds_toArray, List.set_cons_zero, List.set_cons_succ]
      refine all_one (i := 5) (by kernel_rfl) rfl rfl ?_
      refine wp_loadA (d := some 17) (.tmp 16) 26 rfl rfl rfl (ld_row (blk_cell (j := 0) hb0 rfl) ⟨_, _, _, rfl⟩) ⟨trivial, ?_⟩
      simp only [Act.put, List.setIfInBounds_toArray, List.set_cons_zero, List.set_cons_succ]
      refine take_one (i := 7) (d := some 19) (v := u2) rfl rfl rfl (by kernel_rfl) (by kernel_rfl) (by kernel_rfl) (fun _ _ _ _ _ h => h.elim) (fun W hS => ex_slice 26 (.tmp 17) (some (.tmp 18)) none rfl rfl rfl rfl (HU2.out W)) trivial ?_
      simp only [Act.put, List.setIfInBounds_toArray, List.set_cons_zero, List.set_cons_succ]
      refine take_one (i := 14) (d := some 26) (v := .pointer (some ⟨R, 0, none⟩)) rfl rfl rfl (by kernel_rfl) (by kernel_rfl) (by kernel_rfl) (fun _ _ _ _ _ h => h.elim) (fun W hS => by kernel_rfl) trivial ?_
      simp only [Act.put, List.setIfInBounds_toArray, List.set_cons_zero, List.set_cons_succ]
      refine take_one (i := 15) (d := some 27) (v := .pointer (some ⟨R, 0, none⟩)) rfl rfl rfl (by kernel_rfl) (by kernel_rfl) (by kernel_rfl) (fun _ _ _ _ _ h => h.elim) (fun W hS => by kernel_rfl) trivial ?_
      simp only [Act.put, List.setIfInBounds_toArray, List.set_cons_zero, List.set_cons_succ]
      have hb1 : (W.drew.setCell ⟨R, 0, none⟩ u2).heap[R]? = some (RBox u2 at' c nx) := blk_set hb0 0 u2
      refine all_one (i := 16) (by kernel_rfl) rfl rfl ?_
      refine wp_storeA (.tmp 27) (.tmp 19) 26 rfl rfl rfl rfl (st_row hb0 (by rw [rC_len]; omega) hs2) ⟨trivial, ?_⟩
      refine take_one (i := 17) (d := some 28) (v := .pointer (some ⟨R, 0, none⟩)) rfl rfl rfl (by kernel_rfl) (by kernel_rfl) (by kernel_rfl) (fun _ _ _ _ _ h => h.elim) (fun W hS => by kernel_rfl) trivial ?_
      simp only [Act.put, List.setIfInBounds_toArray, List.set_cons_zero, List.set_cons_succ]
      refine take_one (i := 18) (d := some 29) (v := .pointer (some ⟨R, 1, none⟩)) rfl rfl rfl (by kernel_rfl) (by kernel_rfl) (by kernel_rfl) (fun _ _ _ _ _ h => h.elim) (fun W hS => by kernel_rfl) trivial ?_
      simp only [Act.put, List.setIfInBounds_toArray, List.set_cons_zero, List.set_cons_succ]
      have hb3 : ((W.drew.setCell ⟨R, 0, none⟩ u2).setCell ⟨R, 1, none⟩ (.int .i64 ((at' + n : Nat) : Int))).heap[R]? = some (RBox u2 (at' + n) c nx) := blk_set hb1 1 _
      refine all_one (i := 19) (by kernel_rfl) rfl rfl ?_
      refine wp_storeA (.tmp 29) (.tmp 25) 3 rfl rfl rfl rfl (st_int hb1 (by rw [rC_len]; omega) _) ⟨trivial, ?_⟩
      refine wpAnyH_done (by kernel_rfl) ?_ _
      have ho : Only R W _ := (((Only.refl R W).drew).set 0 u2).set 1 (.int .i64 ((at' + n : Nat) : Int))
      have hsp := Sep.of_only (O := fun b => b = R) ho rfl
      exact ⟨rfl, HB1.out.sep hsp (fun b hb e => HH.out.ne (e ▸ hb)), ⟨hb3, HB2.out.sep hsp (fun b hb e => HH.out.ne (e ▸ hb)), HH.out.ne, hlim⟩, ho⟩
  · rintro a' w' ⟨rfl, hb, hr, ho⟩
    simp only [Act.put, List.setIfInBounds_toArray, List.set_cons_zero, List.set_cons_succ]
    have HF : Hid (BS S w' (.slice x1 n1 m1) (rest.take n) ∧ RB S w' R (rest.drop n) (at' + n) c nx u2 ∧ Only R W w') := ⟨hb, hr, ho⟩
    clear hb hr ho HU1 HU2 HB1 HB2 HH
    go_wp2
    go_ret
    exact ⟨_, u2, rfl, HF.out⟩
theorem BS.first {S : Nat → Prop} {w : World} {v : Value} {zs : List Int} (h : BS S w v zs) (h0 : 0 < zs.length) : ∃ b off n cap, v = .slice (some ⟨b, off, none⟩) zs.length cap ∧ n = zs.length ∧ ∀ j, j < zs.length → w.cell? ⟨b, off + j, none⟩ = some (.int .u8 (gz zs j)) := by
  obtain ⟨b, off, cap, rfl, hc, hlt, hcell⟩ := h.row.some h0
  exact ⟨b, off, _, cap, rfl, rfl, hcell⟩
set_option maxHeartbeats 4000000 in
set_option maxRecDepth 100000 in
theorem octet_calls (h : RB S W R rest at' c nx left) (hp : 1 ≤ rest.length) (hlim : at' + 1 ≤ 1000000000000000) :
    Calls Try.prog 46 #[.pointer (some ⟨R, 0, none⟩)] W fun e w' => ∃ left', e = .returned (.int .u8 (gz rest 0)) ∧ RB S w' R (rest.drop 1) (at' + 1) c nx left' ∧ Only R W w' := by
  have HR : Hid _ := run_calls h 1 hp (by omega) hlim
  have htl : (rest.take 1).length = 1 := by rw [List.length_take]; omega
  have hg : gz (rest.take 1) 0 = gz rest 0 := by unfold gz; rw [List.getElem?_take_of_lt (by omega)]
  obtain ⟨G0, hG0⟩ : ∃ G, gz rest 0 = G := ⟨_, rfl⟩
  rw [hG0] at hg ⊢
  have HG : Hid (gz (rest.take 1) 0 = G0) := hg
  have HT : Hid _ := htl
  clear h htl hg hG0
  go_enter Try.func46, Try.ntmps46
  go_wp2_with fail
  refine Calls.mono HR.out ?_
  rintro e w1 ⟨u, left', rfl, hb, hr, ho⟩
  obtain ⟨b, off, n, cap, rfl, hn, hc⟩ := hb.first (by rw [HT.out]; omega)
  have kc := hc 0 (by rw [HT.out]; omega)
  rw [HG.out] at kc
  rw [HT.out]
  have HF : Hid (RB S w1 R (rest.drop 1) (at' + 1) c nx left' ∧ Only R W w1) := ⟨hr, ho⟩
  rw [Nat.add_zero] at kc
  clear hb hr ho hc hn HR HT HG
  go_wp2
  go_ret
  exact ⟨left', rfl, HF.out⟩
set_option maxHeartbeats 4000000 in
set_option maxRecDepth 100000 in
theorem word_calls (h : RB S W R rest at' c nx left) (hp : 2 ≤ rest.length) (hlim : at' + 2 ≤ 1000000000000000) :
    Calls Try.prog 45 #[.pointer (some ⟨R, 0, none⟩)] W fun e w' => ∃ left', e = .returned (.int .u16 (gz rest 0 * 256 + gz rest 1)) ∧ RB S w' R (rest.drop 2) (at' + 2) c nx left' ∧ Only R W w' := by
  have HR : Hid _ := run_calls h 2 hp (by omega) hlim
  have htl : (rest.take 2).length = 2 := by rw [List.length_take]; omega
  have hg0 : gz (rest.take 2) 0 = gz rest 0 := by unfold gz; rw [List.getElem?_take_of_lt (by omega)]
  have hg1 : gz (rest.take 2) 1 = gz rest 1 := by unfold gz; rw [List.getElem?_take_of_lt (by omega)]
  have f0 := gz_fit h.byt.row.fit 0
  have f1 := gz_fit h.byt.row.fit 1
  have HG0 : Hid _ := hg0
  have HG1 : Hid _ := hg1
  have HT : Hid _ := htl
  obtain ⟨G0, hG0⟩ : ∃ G, gz rest 0 = G := ⟨_, rfl⟩
  obtain ⟨G1, hG1⟩ : ∃ G, gz rest 1 = G := ⟨_, rfl⟩
  rw [hG0] at f0 HG0 ⊢
  rw [hG1] at f1 HG1 ⊢
  have hor : bits .or .u16 (G0 * 256) G1 = G0 * 256 + G1 := by
    obtain ⟨x, rfl⟩ := Int.eq_ofNat_of_zero_le f0.1
    obtain ⟨y, rfl⟩ := Int.eq_ofNat_of_zero_le f1.1
    rw [show ((x : Int) * 256) = ((x * 256 : Nat) : Int) by omega, u16_or_nat _ _ (by omega) (by omega), show x * 256 = 2 ^ 8 * x by omega, Nat.or_comm, or_hi y x 8 (by omega)]
    omega
  have m1 : G0 * 256 % 65536 = G0 * 256 := by omega
  clear h htl hg0 hg1 hG0 hG1
  go_enter Try.func45, Try.ntmps45
  go_wp2_with fail
  refine Calls.mono HR.out ?_
  rintro e w1 ⟨u, left', rfl, hb, hr, ho⟩
  obtain ⟨b, off, n, cap, rfl, hn, hc⟩ := hb.first (by rw [HT.out]; omega)
  have HC : Hid (∀ x : Hi w1, x.W.cell? ⟨b, off, none⟩ = some (.int .u8 G0)) := fun x => by
    have := ((hb.on x.below).first (by rw [HT.out]; omega))
    obtain ⟨b', off', n', cap', e', _, hc'⟩ := this
    injection e' with e' _ _
    cases e'
    have := hc' 0 (by rw [HT.out]; omega)
    rw [HG0.out, Nat.add_zero] at this
    exact this
  have HC1 : Hid (∀ x : Hi w1, x.W.cell? ⟨b, off + 1, none⟩ = some (.int .u8 G1)) := fun x => by
    have := ((hb.on x.below).first (by rw [HT.out]; omega))
    obtain ⟨b', off', n', cap', e', _, hc'⟩ := this
    injection e' with e' _ _
    cases e'
    have := hc' 1 (by rw [HT.out]; omega)
    rw [HG1.out] at this
    exact this
  rw [HT.out]
  have HF : Hid (∀ X, Below w1.heap.size w1 X → RB S X R (rest.drop 2) (at' + 2) c nx left') := fun X hX => hr.on hX
  have HO : Hid (Only R W w1) := ho
  have kc := HC.out (Hi.refl w1)
  clear hb hr ho hc hn HR HT HG0 HG1 kc
  go_wp2_with fail
  refine region_mid (fun a0 a' w' => a' = (((((((((((a0.put (some 6) (.slice (some ⟨b, off, none⟩) 2 cap)).put (some 7) (.pointer (some ⟨b, off, none⟩))).put (some 8) (.int .u8 G0)).put (some 9) (.int .u16 G0)).put (some 10) (.int .u16 (G0 * 256))).put (some 11) (.slice (some ⟨b, off, none⟩) 2 cap)).put (some 12) (.pointer (some ⟨b, off + 1, none⟩))).put (some 13) (.int .u8 G1)).put (some 14) (.int .u16 G1)).put (some 15) (.int .u16 (G0 * 256 + G1))).put (some 2) (.int .u16 (G0 * 256 + G1))) ∧ w' = w1.drew) ?_ ?_
  · skip
    refine wp_region_held (S := fun X => X.cell? ⟨b, off, none⟩ = some (.int .u8 G0) ∧ X.cell? ⟨b, off + 1, none⟩ = some (.int .u8 G1)) (by kernel_rfl) ?_
    show wpAnyH _ _ _ _ _ 11 (Array.replicate 11 false) _ _
    have hs0 : w1.drew.cell? ⟨b, off, none⟩ = some (.int .u8 G0) ∧ w1.drew.cell? ⟨b, off + 1, none⟩ = some (.int .u8 G1) := ⟨HC.out ⟨_, (Below.refl _ w1).drew⟩, HC1.out ⟨_, (Below.refl _ w1).drew⟩⟩
    refine take_one (i := 0) (d := some 6) (v := .slice (some ⟨b, off, none⟩) 2 cap) rfl rfl rfl (by kernel_rfl) (by kernel_rfl) (by kernel_rfl) (fun _ _ _ _ _ h => h.elim) (fun W hS => by kernel_rfl) hs0 ?_
    simp only [Act.put, List.setIfInBounds_toArray, List.set_cons_zero, List.set_cons_succ]
    refine take_one (i := 1) (d := some 7) (v := .pointer (some ⟨b, off, none⟩)) rfl rfl rfl (by kernel_rfl) (by kernel_rfl) (by kernel_rfl) (fun _ _ _ _ _ h => h.elim) (fun W hS => by kernel_rfl) hs0 ?_
    simp only [Act.put, List.setIfInBounds_toArray, List.set_cons_zero, List.set_cons_succ]
    refine take_one (i := 2) (d := some 8) (v := .int .u8 G0) rfl rfl rfl (by kernel_rfl) (by kernel_rfl) (by kernel_rfl) (fun _ _ _ _ _ h => h.elim) (fun W hS => ex_loadA (.tmp 7) 5 rfl rfl (ld_u8 hS.1)) hs0 ?_
    simp only [Act.put, List.setIfInBounds_toArray, List.set_cons_zero, List.set_cons_succ]
    refine take_one (i := 3) (d := some 9) (v := .int .u16 G0) rfl rfl rfl (by kernel_rfl) (by kernel_rfl) (by kernel_rfl) (fun _ _ _ _ _ h => h.elim) (fun W hS => cv816 (.tmp 8) rfl rfl f0) hs0 ?_
    simp only [Act.put, List.setIfInBounds_toArray, List.set_cons_zero, List.set_cons_succ]
    refine take_one (i := 4) (d := some 10) (v := .int .u16 (G0 * 256)) rfl rfl rfl (by kernel_rfl) (by kernel_rfl) (by kernel_rfl) (fun _ _ _ _ _ h => h.elim) (fun W hS => shl8 (.tmp 9) rfl rfl m1) hs0 ?_
    simp only [Act.put, List.setIfInBounds_toArray, List.set_cons_zero, List.set_cons_succ]
    refine take_one (i := 5) (d := some 11) (v := .slice (some ⟨b, off, none⟩) 2 cap) rfl rfl rfl (by kernel_rfl) (by kernel_rfl) (by kernel_rfl) (fun _ _ _ _ _ h => h.elim) (fun W hS => by kernel_rfl) hs0 ?_
    simp only [Act.put, List.setIfInBounds_toArray, List.set_cons_zero, List.set_cons_succ]
    refine take_one (i := 6) (d := some 12) (v := .pointer (some ⟨b, off + 1, none⟩)) rfl rfl rfl (by kernel_rfl) (by kernel_rfl) (by kernel_rfl) (fun _ _ _ _ _ h => h.elim) (fun W hS => by kernel_rfl) hs0 ?_
    simp only [Act.put, List.setIfInBounds_toArray, List.set_cons_zero, List.set_cons_succ]
    refine take_one (i := 7) (d := some 13) (v := .int .u8 G1) rfl rfl rfl (by kernel_rfl) (by kernel_rfl) (by kernel_rfl) (fun _ _ _ _ _ h => h.elim) (fun W hS => ex_loadA (.tmp 12) 5 rfl rfl (ld_u8 hS.2)) hs0 ?_
    simp only [Act.put, List.setIfInBounds_toArray, List.set_cons_zero, List.set_cons_succ]
    refine take_one (i := 8) (d := some 14) (v := .int .u16 G1) rfl rfl rfl (by kernel_rfl) (by kernel_rfl) (by kernel_rfl) (fun _ _ _ _ _ h => h.elim) (fun W hS => cv816 (.tmp 13) rfl rfl f1) hs0 ?_
    simp only [Act.put, List.setIfInBounds_toArray, List.set_cons_zero, List.set_cons_succ]
    refine take_one (i := 9) (d := some 15) (v := .int .u16 (G0 * 256 + G1)) rfl rfl rfl (by kernel_rfl) (by kernel_rfl) (by kernel_rfl) (fun _ _ _ _ _ h => h.elim) (fun W hS => or16 (.tmp 10) (.tmp 14) rfl rfl rfl hor) hs0 ?_
    simp only [Act.put, List.setIfInBounds_toArray, List.set_cons_zero, List.set_cons_succ]
    refine take_one (i := 10) (d := some 2) (v := .int .u16 (G0 * 256 + G1)) rfl rfl rfl (by kernel_rfl) (by kernel_rfl) (by kernel_rfl) (fun _ _ _ _ _ h => h.elim) (fun W hS => by kernel_rfl) hs0 ?_
    simp only [Act.put, List.setIfInBounds_toArray, List.set_cons_zero, List.set_cons_succ]
    refine wpAnyH_done (by kernel_rfl) ?_ _
    exact ⟨rfl, rfl⟩
  · rintro a' w' ⟨rfl, rfl⟩
    simp only [Act.put, List.setIfInBounds_toArray, List.set_cons_zero, List.set_cons_succ]
    have HFX : Hid (RB S w1.drew R (rest.drop 2) (at' + 2) c nx left' ∧ Only R W w1.drew) := ⟨HF.out _ ((Below.refl _ w1).drew), HO.out.drew⟩
    generalize w1.drew = wx at *
    clear HC HC1 HF HO hor m1
    go_wp2
    go_ret
    exact ⟨left', rfl, HFX.out⟩
set_option maxHeartbeats 4000000 in
set_option maxRecDepth 100000 in
theorem long_calls (h : RB S W R rest at' c nx left) (hp : 4 ≤ rest.length) (hlim : at' + 4 ≤ 1000000000000000) :
    Calls Try.prog 44 #[.pointer (some ⟨R, 0, none⟩)] W fun e w' => ∃ left', e = .returned (.int .u32 (gz rest 0 * 16777216 + gz rest 1 * 65536 + gz rest 2 * 256 + gz rest 3)) ∧ RB S w' R (rest.drop 4) (at' + 4) c nx left' ∧ Only R W w' := by
  have HW1 : Hid _ := word_calls h (by omega) (by omega)
  have HW2 : Hid (∀ X l, RB S X R (rest.drop 2) (at' + 2) c nx l → Calls Try.prog 45 #[.pointer (some ⟨R, 0, none⟩)] X fun e w' => ∃ left', e = .returned (.int .u16 (gz rest 2 * 256 + gz rest 3)) ∧ RB S w' R (rest.drop 4) (at' + 4) c nx left' ∧ Only R X w') := fun X l hX => by
    have := word_calls hX (by rw [List.length_drop]; omega) (by omega)
    rw [List.drop_drop] at this
    have g2 : gz (rest.drop 2) 0 = gz rest 2 := by unfold gz; rw [List.getElem?_drop]
    have g3 : gz (rest.drop 2) 1 = gz rest 3 := by unfold gz; rw [List.getElem?_drop]
    rw [g2, g3] at this
    exact this
  have f0 := gz_fit h.byt.row.fit 0
  have f1 := gz_fit h.byt.row.fit 1
  have f2 := gz_fit h.byt.row.fit 2
  have f3 := gz_fit h.byt.row.fit 3
  generalize gz rest 0 = G0 at *
  generalize gz rest 1 = G1 at *
  generalize gz rest 2 = G2 at *
  generalize gz rest 3 = G3 at *
  obtain ⟨A1, hA1⟩ : ∃ A1, G0 * 256 + G1 = A1 := ⟨_, rfl⟩
  obtain ⟨A2, hA2⟩ : ∃ A2, G2 * 256 + G3 = A2 := ⟨_, rfl⟩
  rw [hA1] at HW1
  rw [hA2] at HW2
  have hor : bits .or .u32 (A1 * 65536) A2 = A1 * 65536 + A2 := by
    obtain ⟨x, hx⟩ := Int.eq_ofNat_of_zero_le (show 0 ≤ A1 by omega)
    obtain ⟨y, hy⟩ := Int.eq_ofNat_of_zero_le (show 0 ≤ A2 by omega)
    rw [hx, hy, show ((x : Int) * 65536) = ((x * 65536 : Nat) : Int) by omega, u32_or_nat _ _ (by omega) (by omega), show x * 65536 = 2 ^ 16 * x by omega, Nat.or_comm, or_hi y x 16 (by omega)]
    omega
  have m1 : A1 * 65536 % 4294967296 = A1 * 65536 := by omega
  have m2 : A2 % 4294967296 = A2 := by omega
  have m3 : A1 % 4294967296 = A1 := by omega
  have HEQ : Hid (A1 * 65536 + A2 = G0 * 16777216 + G1 * 65536 + G2 * 256 + G3) := by show _ = _; omega
  clear h f0 f1 f2 f3 hA1 hA2
  go_enter Try.func44, Try.ntmps44
  go_wp2_with fail
  refine Calls.mono HW1.out ?_
  rintro e w1 ⟨l1, rfl, hr1, ho1⟩
  have HO1 : Hid (Only R W w1) := ho1
  have HC2 : Hid _ := HW2.out _ _ hr1
  clear hr1 ho1 HW1 HW2
  go_wp2_with fail
  refine Calls.mono HC2.out ?_
  rintro e w2 ⟨l2, rfl, hr2, ho2⟩
  have HF : Hid (RB S w2 R (rest.drop 4) (at' + 4) c nx l2 ∧ Only R W w2) := ⟨hr2, HO1.out.trans ho2⟩
  clear hr2 ho2 HC2 HO1
  go_wp2
  go_ret
  exact ⟨l2, by show Ending.returned (.int .u32 (A1 * 65536 + A2)) = _; rw [HEQ.out], HF.out⟩
end

end Go.Proofs.Ytbaeogoojpngbaa
