/-
  A reader of package ipv6: run, octet, word, long.
  begin of package ipv6.
  datagram of package ipv6, where there are no heads.
-/
import Derived.Test.YtpgnnplpcalbbaaGreatFold11
import Derived.Laws.IdiomCopy
set_option linter.unusedVariables false
set_option linter.unusedSimpArgs false
namespace Go.Proofs.YtpgnnplpcalbbaaGreat.V6
open Go Go.RowKit
theorem cv816 {o : Oper} {a : Act} {W : World} (p : Operand) (hop : o.op = Op.convert 5 22 p) {x : Int} (hp : a.eval p = .int .u8 x) (h : 0 ≤ x ∧ x < 256) : (execOp a.eval o).run Tryz.prog W = .ok (.value (.int .u16 x)) W := by
  have e : IntKind.u16.wrap x = x := by have e : x % 65536 = x := by omega
                                        simp [IntKind.wrap, IntKind.signed, IntKind.bits, e]
  generalize a.eval = ev at *
  simp [execOp, hop, hp, go_sem, e]
theorem shl8 {o : Oper} {a : Act} {W : World} (p : Operand) {t : TypeId} (hop : o.op = Op.binOp .shl 22 p (.const (.int .u64 8)) t) {x : Int} (hp : a.eval p = .int .u16 x) (h : x * 256 % 65536 = x * 256) : (execOp a.eval o).run Tryz.prog W = .ok (.value (.int .u16 (x * 256))) W := by
  have hc : a.eval (.const (.int .u64 8)) = .int .u64 8 := rfl
  have e : IntKind.u16.wrap (x * 256) = x * 256 := by simp [IntKind.wrap, IntKind.signed, IntKind.bits, h]
  generalize a.eval = ev at *
  simp [execOp, hop, hp, hc, go_sem, e]
theorem or16 {o : Oper} {a : Act} {W : World} (p q : Operand) {t : TypeId} (hop : o.op = Op.binOp .or 22 p q t) {x y z : Int} (hp : a.eval p = .int .u16 x) (hq : a.eval q = .int .u16 y) (hz : bits .or .u16 x y = z) : (execOp a.eval o).run Tryz.prog W = .ok (.value (.int .u16 z)) W := by
  generalize a.eval = ev at *
  simp [execOp, hop, hp, hq, go_sem, hz]
/-- A reader's cells: what is left, where it begins, the datagram's cells, what is said to stand there. -/
def rC (left : Value) (at' : Nat) (c : List Value) (nx : Int) : List Value := left :: .int .i64 (at' : Int) :: (c ++ [.int .u8 nx])
abbrev RBox (left : Value) (at' : Nat) (c : List Value) (nx : Int) : Obj := .cells (rC left at' c nx).toArray 263
theorem rC_len (left : Value) (at' : Nat) (c : List Value) (nx : Int) : (rC left at' c nx).length = c.length + 3 := by simp [rC]
/-- A reader in its box, over bytes that are left. -/
structure RB (S : Nat → Prop) (W : World) (R : Nat) (rest : List Int) (at' : Nat) (c : List Value) (nx : Int) (left : Value) : Prop where
  box : W.heap[R]? = some (RBox left at' c nx)
  byt : BS S W left rest
  ne : ¬ S R
  hi : at' ≤ 1000000000000000
section
variable {S : Nat → Prop} {W W' : World} {R : Nat} {rest : List Int} {at' : Nat} {c : List Value} {nx : Int} {left : Value}
theorem RB.on (h : RB S W R rest at' c nx left) (hb : Below W.heap.size W W') : RB S W' R rest at' c nx left := ⟨blk_on h.box hb, h.byt.on hb, h.ne, h.hi⟩
theorem RB.k0 (h : RB S W R rest at' c nx left) : W.cell? ⟨R, 0, none⟩ = some left := blk_cell h.box rfl
theorem RB.k1 (h : RB S W R rest at' c nx left) : W.cell? ⟨R, 1, none⟩ = some (.int .i64 at') := blk_cell h.box rfl
theorem RB.at (h : RB S W R rest at' c nx left) {j : Nat} {v : Value} (hj : c[j]? = some v) : W.cell? ⟨R, j + 2, none⟩ = some v := by
  refine blk_cell h.box ?_
  unfold rC
  simp only [List.getElem?_cons_succ]
  rw [List.getElem?_append_left (List.getElem?_eq_some_iff.1 hj).1]
  exact hj
theorem RB.put (h : RB S W R rest at' c nx left) {j : Nat} (hj : j < c.length) (v : Value) : RB S (W.setCell ⟨R, j + 2, none⟩ v) R rest at' (c.set j v) nx left := by
  refine ⟨?_, h.byt.sep (Sep.of_only (O := fun b => b = R) ((Only.refl R W).set _ _) rfl) (fun b hb e => h.ne (e ▸ hb)), h.ne, h.hi⟩
  rw [blk_set h.box]
  unfold rC
  simp only [List.set_cons_succ]
  rw [List.set_append_left _ _ hj]
  rfl
theorem RB.next (h : RB S W R rest at' c nx left) (v : Int) {n : Nat} (hn : c.length = n) : RB S (W.setCell ⟨R, n + 2, none⟩ (.int .u8 v)) R rest at' c v left := by
  refine ⟨?_, h.byt.sep (Sep.of_only (O := fun b => b = R) ((Only.refl R W).set _ _) rfl) (fun b hb e => h.ne (e ▸ hb)), h.ne, h.hi⟩
  rw [blk_set h.box]
  unfold rC
  simp only [List.set_cons_succ]
  rw [← hn, List.set_append_right _ _ (Nat.le_refl _), Nat.sub_self]
  rfl
end
section
variable {S : Nat → Prop} {W : World} {R : Nat} {rest : List Int} {at' : Nat} {c : List Value} {nx : Int} {left : Value}
set_option maxHeartbeats 4000000 in
set_option maxRecDepth 100000 in
theorem run_calls (h : RB S W R rest at' c nx left) (n : Nat) (hn : n ≤ rest.length) (hp : 0 < rest.length) (hlim : at' + n ≤ 1000000000000000) :
    Calls Tryz.prog 236 #[.pointer (some ⟨R, 0, none⟩), .int .i64 n] W fun e w' => ∃ u left', e = .returned u ∧ (BS S w' u (rest.take n) ∧ RB S w' R (rest.drop n) (at' + n) c nx left' ∧ Only R W w') := by
  obtain ⟨u1, hu1, hb1⟩ := cut_front h.byt hp n hn
  obtain ⟨u2, hu2, hb2⟩ := cut_rest h.byt hp n hn
  have hls := h.byt.slc
  have hs1 := hb1.slc
  have hs2 := hb2.slc
  have k0 := h.k0
  have HU1 : Hid _ := hu1
  have HU2 : Hid _ := hu2
  have HB1 : Hid (BS S W u1 (rest.take n)) := hb1
  have HB2 : Hid (BS S W u2 (rest.drop n)) := hb2
  have HH : Hid (RB S W R rest at' c nx left) := h
  obtain ⟨xl, nl, ml, rfl⟩ := hls
  obtain ⟨x1, n1, m1, rfl⟩ := hs1
  have hsum : -9223372036854775808 ≤ (at' : Int) + (n : Int) ∧ (at' : Int) + (n : Int) ≤ 9223372036854775807 := by omega
  clear h hu1 hu2 hb1 hb2
  go_enter Tryz.func236, Tryz.ntmps236
  go_wp2_with first
    | ((with_reducible show wpList _ _ _ ({ dst := _, op := Op.slice 25 (Operand.tmp 9) none (some (Operand.tmp 10)) none, type := _, pos := _, after := _, guard := _ } :: _) _ _); refine arm_slice rfl 25 (.tmp 9) none (some (Operand.tmp 10)) rfl rfl rfl rfl (HU1.out _) ?_)
  clear k0
  refine region_mid (fun a0 a' w' => a' = ((((((((((((((((((a0.put (some 12) (.pointer (some ⟨R, 0, none⟩))).put (some 13) (.pointer (some ⟨R, 0, none⟩))).put (some 14) (.pointer (some ⟨R, 0, none⟩))).put (some 15) (.pointer (some ⟨R, 0, none⟩))).put (some 16) (.pointer (some ⟨R, 0, none⟩))).put (some 18) (.int .i64 (n : Nat))).put (some 20) (.pointer (some ⟨R, 0, none⟩))).put (some 21) (.pointer (some ⟨R, 0, none⟩))).put (some 22) (.pointer (some ⟨R, 1, none⟩))).put (some 24) (.int .i64 (n : Nat))).put (some 17) (.slice xl nl ml)).put (some 19) (u2)).put (some 23) (.int .i64 (at' : Nat))).put (some 25) (.int .i64 ((at' + n : Nat) : Int))).put (some 26) (.pointer (some ⟨R, 0, none⟩))).put (some 27) (.pointer (some ⟨R, 0, none⟩))).put (some 28) (.pointer (some ⟨R, 0, none⟩))).put (some 29) (.pointer (some ⟨R, 1, none⟩))) ∧ BS S w' (.slice x1 n1 m1) (rest.take n) ∧ RB S w' R (rest.drop n) (at' + n) c nx u2 ∧ Only R W w') ?_ ?_
  · skip
    refine wp_region_held (S := fun _ => True) (by kernel_rfl) ?_
    show wpAnyH _ _ _ _ _ 20 (Array.replicate 20 false) _ _
    have hb0 : W.drew.heap[R]? = some (RBox (.slice xl nl ml) at' c nx) := HH.out.box
    refine take_one (i := 0) (d := some 12) (v := .pointer (some ⟨R, 0, none⟩)) rfl rfl rfl (by kernel_rfl) (by kernel_rfl) (by kernel_rfl) (fun _ _ _ _ _ h => h.elim) (fun W hS => by kernel_rfl) trivial ?_
    simp only [Act.put, List.setIfInBounds_toArray, List.set_cons_zero, List.set_cons_succ]
    refine take_one (i := 1) (d := some 13) (v := .pointer (some ⟨R, 0, none⟩)) rfl rfl rfl (by kernel_rfl) (by kernel_rfl) (by kernel_rfl) (fun _ _ _ _ _ h => h.elim) (fun W hS => by kernel_rfl) trivial ?_
    simp only [Act.put, List.setIfInBounds_toArray, List.set_cons_zero, List.set_cons_succ]
    refine take_one (i := 2) (d := some 14) (v := .pointer (some ⟨R, 0, none⟩)) rfl rfl rfl (by kernel_rfl) (by kernel_rfl) (by kernel_rfl) (fun _ _ _ _ _ h => h.elim) (fun W hS => by kernel_rfl) trivial ?_
    simp only [Act.put, List.setIfInBounds_toArray, List.set_cons_zero, List.set_cons_succ]
    refine take_one (i := 3) (d := some 15) (v := .pointer (some ⟨R, 0, none⟩)) rfl rfl rfl (by kernel_rfl) (by kernel_rfl) (by kernel_rfl) (fun _ _ _ _ _ h => h.elim) (fun W hS => by kernel_rfl) trivial ?_
    simp only [Act.put, List.setIfInBounds_toArray, List.set_cons_zero, List.set_cons_succ]
    refine take_one (i := 4) (d := some 16) (v := .pointer (some ⟨R, 0, none⟩)) rfl rfl rfl (by kernel_rfl) (by kernel_rfl) (by kernel_rfl) (fun _ _ _ _ _ h => h.elim) (fun W hS => by kernel_rfl) trivial ?_
    simp only [Act.put, List.setIfInBounds_toArray, List.set_cons_zero, List.set_cons_succ]
    refine take_one (i := 6) (d := some 18) (v := .int .i64 (n : Nat)) rfl rfl rfl (by kernel_rfl) (by kernel_rfl) (by kernel_rfl) (fun _ _ _ _ _ h => h.elim) (fun W hS => by kernel_rfl) trivial ?_
    simp only [Act.put, List.setIfInBounds_toArray, List.set_cons_zero, List.set_cons_succ]
    refine take_one (i := 8) (d := some 20) (v := .pointer (some ⟨R, 0, none⟩)) rfl rfl rfl (by kernel_rfl) (by kernel_rfl) (by kernel_rfl) (fun _ _ _ _ _ h => h.elim) (fun W hS => by kernel_rfl) trivial ?_
    simp only [Act.put, List.setIfInBounds_toArray, List.set_cons_zero, List.set_cons_succ]
    refine take_one (i := 9) (d := some 21) (v := .pointer (some ⟨R, 0, none⟩)) rfl rfl rfl (by kernel_rfl) (by kernel_rfl) (by kernel_rfl) (fun _ _ _ _ _ h => h.elim) (fun W hS => by kernel_rfl) trivial ?_
    simp only [Act.put, List.setIfInBounds_toArray, List.set_cons_zero, List.set_cons_succ]
    refine take_one (i := 10) (d := some 22) (v := .pointer (some ⟨R, 1, none⟩)) rfl rfl rfl (by kernel_rfl) (by kernel_rfl) (by kernel_rfl) (fun _ _ _ _ _ h => h.elim) (fun W hS => by kernel_rfl) trivial ?_
    simp only [Act.put, List.setIfInBounds_toArray, List.set_cons_zero, List.set_cons_succ]
    refine take_one (i := 12) (d := some 24) (v := .int .i64 (n : Nat)) rfl rfl rfl (by kernel_rfl) (by kernel_rfl) (by kernel_rfl) (fun _ _ _ _ _ h => h.elim) (fun W hS => by kernel_rfl) trivial ?_
    simp only [Act.put, List.setIfInBounds_toArray, List.set_cons_zero, List.set_cons_succ]
    refine all_two (i1 := 5) (i2 := 11) (by kernel_rfl) rfl rfl rfl rfl ?_ ?_
    · refine wp_loadA (d := some 17) (.tmp 16) 25 rfl rfl rfl (ld_row (blk_cell (j := 0) hb0 rfl) ⟨_, _, _, rfl⟩) ⟨trivial, ?_⟩
      simp only [Act.put, List.setIfInBounds_toArray, List.set_cons_zero, List.set_cons_succ]
      refine take_one (i := 7) (d := some 19) (v := u2) rfl rfl rfl (by kernel_rfl) (by kernel_rfl) (by kernel_rfl) (fun _ _ _ _ _ h => h.elim) (fun W hS => ex_slice 25 (.tmp 17) (some (.tmp 18)) none rfl rfl rfl rfl (HU2.out W)) trivial ?_
      simp only [Act.put, List.setIfInBounds_toArray, List.set_cons_zero, List.set_cons_succ]
      refine all_one (i := 11) (by kernel_rfl) rfl rfl ?_
      refine wp_loadA (d := some 23) (.tmp 22) 3 rfl rfl rfl (ld_int (blk_cell (j := 1) hb0 rfl)) ⟨trivial, ?_⟩
      simp only [Act.put, List.setIfInBounds_toArray, List.set_cons_zero, List.set_cons_succ]
      refine take_one (i := 13) (d := some 25) (v := .int .i64 ((at' + n : Nat) : Int)) rfl rfl rfl (by kernel_rfl) (by kernel_rfl) (by kernel_rfl) (fun _ _ _ _ _ h => h.elim) (fun W hS => ex_addE (.tmp 23) (.tmp 24) rfl rfl rfl (by omega) (by omega)) trivial ?_
      simp only [Act.put, List.setIfInBounds_toArray, List.set_cons_zero, List.set_cons_succ]
      refine take_one (i := 14) (d := some 26) (v := .pointer (some ⟨R, 0, none⟩)) rfl rfl rfl (by kernel_rfl) (by kernel_rfl) (by kernel_rfl) (fun _ _ _ _ _ h => h.elim) (fun W hS => by kernel_rfl) trivial ?_
      simp only [Act.put, List.setIfInBounds_toArray, List.set_cons_zero, List.set_cons_succ]
      refine take_one (i := 15) (d := some 27) (v := .pointer (some ⟨R, 0, none⟩)) rfl rfl rfl (by kernel_rfl) (by kernel_rfl) (by kernel_rfl) (fun _ _ _ _ _ h => h.elim) (fun W hS => by kernel_rfl) trivial ?_
      simp only [Act.put, List.setIfInBounds_toArray, List.set_cons_zero, List.set_cons_succ]
      have hb1 : (W.drew.setCell ⟨R, 0, none⟩ u2).heap[R]? = some (RBox u2 at' c nx) := blk_set hb0 0 u2
      refine all_one (i := 16) (by kernel_rfl) rfl rfl ?_
      refine wp_storeA (.tmp 27) (.tmp 19) 25 rfl rfl rfl rfl (st_row hb0 (by rw [rC_len]; omega) hs2) ⟨trivial, ?_⟩
      refine take_one (i := 17) (d := some 28) (v := .pointer (some ⟨R, 0, none⟩)) rfl rfl rfl (by kernel_rfl) (by kernel_rfl) (by kernel_rfl) (fun _ _ _ _ _ h => h.elim) (fun W hS => by kernel_rfl) trivial ?_
      simp only [Act.put, List.setIfInBounds_toArray, List.set_cons_zero, List.set_cons_succ]
      refine take_one (i := 18) (d := some 29) (v := .pointer (some ⟨R, 1, none⟩)) rfl rfl rfl (by kernel_rfl) (by kernel_rfl) (by kernel_rfl) (fun _ _ _ _ _ h => h.elim) (fun W hS => by kernel_rfl) trivial ?_
      simp only [Act.put, List.setIfInBounds_toArray, List.set_cons_zero, List.set_cons_succ]
      have hb3 : ((W.drew.setCell ⟨R, 0, none⟩ u2).setCell ⟨R, 1, none⟩ (.int .i64 ((at' + n : Nat) : Int))).heap[R]? = some (RBox u2 (at' + n) c nx) := blk_set hb1 1 _
      refine all_one (i := 19) (by kernel_rfl) rfl rfl ?_
      refine wp_storeA (.tmp 29) (.tmp 25) 3 rfl rfl rfl rfl (st_int hb1 (by rw [rC_len]; omega) _) ⟨trivial, ?_⟩
      refine wpAnyH_done (by kernel_rfl) ?_ _
      have ho : Only R W _ := (((Only.refl R W).drew).set 0 u2).set 1 (.int .i64 ((at' + n : Nat) : Int))
      have hsp := Sep.of_only (O := fun b => b = R) ho rfl
      exact ⟨rfl, HB1.out.sep hsp (fun b hb e => HH.out.ne (e ▸ hb)), ⟨hb3, HB2.out.sep hsp (fun b hb e => HH.out.ne (e ▸ hb)), HH.out.ne, hlim⟩, ho⟩
    · refine wp_loadA (d := some 23) (.tmp 22) 3 rfl rfl rfl (ld_int (blk_cell (j := 1) hb0 rfl)) ⟨trivial, ?_⟩
      simp only [Act.put, List.setIfInBounds_toArray, List.set_cons_zero, List.set_cons_succ]
      refine take_one (i := 13) (d := some 25) (v := .int .i64 ((at' + n : Nat) : Int)) rfl rfl rfl (by kernel_rfl) (by kernel_rfl) (by kernel_rfl) (fun _ _ _ _ _ h => h.elim) (fun W hS => ex_addE (.tmp 23) (.tmp 24) rfl rfl rfl (by omega) (by omega)) trivial ?_
      simp only [Act.put, List.setIfInBounds_toArray, List.set_cons_zero, List.set_cons_succ]
      refine all_one (i := 5) (by kernel_rfl) rfl rfl ?_
      refine wp_loadA (d := some 17) (.tmp 16) 25 rfl rfl rfl (ld_row (blk_cell (j := 0) hb0 rfl) ⟨_, _, _, rfl⟩) ⟨trivial, ?_⟩
      simp only [Act.put, List.setIfInBounds_toArray, List.set_cons_zero, List.set_cons_succ]
      refine take_one (i := 7) (d := some 19) (v := u2) rfl rfl rfl (by kernel_rfl) (by kernel_rfl) (by kernel_rfl) (fun _ _ _ _ _ h => h.elim) (fun W hS => ex_slice 25 (.tmp 17) (some (.tmp 18)) none rfl rfl rfl rfl (HU2.out W)) trivial ?_
      simp only [Act.put, List.setIfInBounds_toArray, List.set_cons_zero, List.set_cons_succ]
      refine take_one (i := 14) (d := some 26) (v := .pointer (some ⟨R, 0, none⟩)) rfl rfl rfl (by kernel_rfl) (by kernel_rfl) (by kernel_rfl) (fun _ _ _ _ _ h => h.elim) (fun W hS => by kernel_rfl) trivial ?_
      simp only [Act.put, List.setIfInBounds_toArray, List.set_cons_zero, List.set_cons_succ]
      refine take_one (i := 15) (d := some 27) (v := .pointer (some ⟨R, 0, none⟩)) rfl rfl rfl (by kernel_rfl) (by kernel_rfl) (by kernel_rfl) (fun _ _ _ _ _ h => h.elim) (fun W hS => by kernel_rfl) trivial ?_
      simp only [Act.put, List.setIfInBounds_toArray, List.set_cons_zero, List.set_cons_succ]
      have hb1 : (W.drew.setCell ⟨R, 0, none⟩ u2).heap[R]? = some (RBox u2 at' c nx) := blk_set hb0 0 u2
      refine all_one (i := 16) (by kernel_rfl) rfl rfl ?_
      refine wp_storeA (.tmp 27) (.tmp 19) 25 rfl rfl rfl rfl (st_row hb0 (by rw [rC_len]; omega) hs2) ⟨trivial, ?_⟩
      refine take_one (i := 17) (d := some 28) (v := .pointer (some ⟨R, 0, none⟩)) rfl rfl rfl (by kernel_rfl) (by kernel_rfl) (by kernel_rfl) (fun _ _ _ _ _ h => h.elim) (fun W hS => by kernel_rfl) trivial ?_
      simp only [Act.put, List.setIfInBounds_toArray, List.set_cons_zero, List.set_cons_succ]
      refine take_one (i := 18) (d := some 29) (v := .pointer (some ⟨R, 1, none⟩)) rfl rfl rfl (by kernel_rfl) (by kernel_rfl) (by kernel_rfl) (fun _ _ _ _ _ h => h.elim) (fun W hS => by kernel_rfl) trivial ?_
      simp only [Act.put, List.setIfInBounds_toArray, List.set_cons_zero, List.set_cons_succ]
      have hb3 : ((W.drew.setCell ⟨R, 0, none⟩ u2).setCell ⟨R, 1, none⟩ (.int .i64 ((at' + n : Nat) : Int))).heap[R]? = some (RBox u2 (at' + n) c nx) := blk_set hb1 1 _
      refine all_one (i := 19) (by kernel_rfl) rfl rfl ?_
      refine wp_storeA (.tmp 29) (.tmp 25) 3 rfl rfl rfl rfl (st_int hb1 (by rw [rC_len]; omega) _) ⟨trivial, ?_⟩
      refine wpAnyH_done (by kernel_rfl) ?_ _
      have ho : Only R W _ := (((Only.refl R W).drew).set 0 u2).set 1 (.int .i64 ((at' + n : Nat) : Int))
      have hsp := Sep.of_only (O := fun b => b = R) ho rfl
      exact ⟨rfl, HB1.out.sep hsp (fun b hb e => HH.out.ne (e ▸ hb)), ⟨hb3, HB2.out.sep hsp (fun b hb e => HH.out.ne (e ▸ hb)), HH.out.ne, hlim⟩, ho⟩
  · rintro a' w' ⟨rfl, hb, hr, ho⟩
    simp only [Act.put, List.setIfInBounds_toArray, List.set_cons_zero, List.set_cons_succ]
    have HF : Hid (BS S w' (.slice x1 n1 m1) (rest.take n) ∧ RB S w' R (rest.drop n) (at' + n) c nx u2 ∧ Only R W w') := ⟨hb, hr, ho⟩
    clear hb hr ho HU1 HU2 HB1 HB2 HH
    go_wp2
    go_ret
    exact ⟨_, u2, rfl, HF.out⟩
theorem _root_.Go.Proofs.YtpgnnplpcalbbaaGreat.BS.first {S : Nat → Prop} {w : World} {v : Value} {zs : List Int} (h : BS S w v zs) (h0 : 0 < zs.length) : ∃ b off n cap, v = .slice (some ⟨b, off, none⟩) zs.length cap ∧ n = zs.length ∧ ∀ j, j < zs.length → w.cell? ⟨b, off + j, none⟩ = some (.int .u8 (gz zs j)) := by
  obtain ⟨b, off, cap, rfl, hc, hlt, hcell⟩ := h.row.some h0
  exact ⟨b, off, _, cap, rfl, rfl, hcell⟩
set_option maxHeartbeats 4000000 in
set_option maxRecDepth 100000 in
theorem octet_calls (h : RB S W R rest at' c nx left) (hp : 1 ≤ rest.length) (hlim : at' + 1 ≤ 1000000000000000) :
    Calls Tryz.prog 235 #[.pointer (some ⟨R, 0, none⟩)] W fun e w' => ∃ left', e = .returned (.int .u8 (gz rest 0)) ∧ RB S w' R (rest.drop 1) (at' + 1) c nx left' ∧ Only R W w' := by
  have HR : Hid _ := run_calls h 1 hp (by omega) hlim
  have htl : (rest.take 1).length = 1 := by rw [List.length_take]; omega
  have hg : gz (rest.take 1) 0 = gz rest 0 := by unfold gz; rw [List.getElem?_take_of_lt (by omega)]
  obtain ⟨G0, hG0⟩ : ∃ G, gz rest 0 = G := ⟨_, rfl⟩
  rw [hG0] at hg ⊢
  have HG : Hid (gz (rest.take 1) 0 = G0) := hg
  have HT : Hid _ := htl
  clear h htl hg hG0
  go_enter Tryz.func235, Tryz.ntmps235
  go_wp2_with fail
  refine Calls.mono HR.out ?_
  rintro e w1 ⟨u, left', rfl, hb, hr, ho⟩
  obtain ⟨b, off, n, cap, rfl, hn, hc⟩ := hb.first (by rw [HT.out]; omega)
  have kc := hc 0 (by rw [HT.out]; omega)
  rw [HG.out] at kc
  rw [HT.out]
  have HF : Hid (RB S w1 R (rest.drop 1) (at' + 1) c nx left' ∧ Only R W w1) := ⟨hr, ho⟩
  rw [Nat.add_zero] at kc
  clear hb hr ho hc hn HR HT HG
  go_wp2
  go_ret
  exact ⟨left', rfl, HF.out⟩
set_option maxHeartbeats 4000000 in
set_option maxRecDepth 100000 in
theorem word_calls (h : RB S W R rest at' c nx left) (hp : 2 ≤ rest.length) (hlim : at' + 2 ≤ 1000000000000000) :
    Calls Tryz.prog 234 #[.pointer (some ⟨R, 0, none⟩)] W fun e w' => ∃ left', e = .returned (.int .u16 (gz rest 0 * 256 + gz rest 1)) ∧ RB S w' R (rest.drop 2) (at' + 2) c nx left' ∧ Only R W w' := by
  have HR : Hid _ := run_calls h 2 hp (by omega) hlim
  have htl : (rest.take 2).length = 2 := by rw [List.length_take]; omega
  have hg0 : gz (rest.take 2) 0 = gz rest 0 := by unfold gz; rw [List.getElem?_take_of_lt (by omega)]
  have hg1 : gz (rest.take 2) 1 = gz rest 1 := by unfold gz; rw [List.getElem?_take_of_lt (by omega)]
  have f0 := gz_fit h.byt.row.fit 0
  have f1 := gz_fit h.byt.row.fit 1
  have HG0 : Hid _ := hg0
  have HG1 : Hid _ := hg1
  have HT : Hid _ := htl
  obtain ⟨G0, hG0⟩ : ∃ G, gz rest 0 = G := ⟨_, rfl⟩
  obtain ⟨G1, hG1⟩ : ∃ G, gz rest 1 = G := ⟨_, rfl⟩
  rw [hG0] at f0 HG0 ⊢
  rw [hG1] at f1 HG1 ⊢
  have hor : bits .or .u16 (G0 * 256) G1 = G0 * 256 + G1 := by
    obtain ⟨x, rfl⟩ := Int.eq_ofNat_of_zero_le f0.1
    obtain ⟨y, rfl⟩ := Int.eq_ofNat_of_zero_le f1.1
    rw [show ((x : Int) * 256) = ((x * 256 : Nat) : Int) by omega, u16_or_nat _ _ (by omega) (by omega), show x * 256 = 2 ^ 8 * x by omega, Nat.or_comm, or_hi y x 8 (by omega)]
    omega
  have m1 : G0 * 256 % 65536 = G0 * 256 := by omega
  clear h htl hg0 hg1 hG0 hG1
  go_enter Tryz.func234, Tryz.ntmps234
  go_wp2_with fail
  refine Calls.mono HR.out ?_
  rintro e w1 ⟨u, left', rfl, hb, hr, ho⟩
  obtain ⟨b, off, n, cap, rfl, hn, hc⟩ := hb.first (by rw [HT.out]; omega)
  have HC : Hid (∀ x : Hi w1, x.W.cell? ⟨b, off, none⟩ = some (.int .u8 G0)) := fun x => by
    have := ((hb.on x.below).first (by rw [HT.out]; omega))
    obtain ⟨b', off', n', cap', e', _, hc'⟩ := this
    injection e' with e' _ _
    cases e'
    have := hc' 0 (by rw [HT.out]; omega)
    rw [HG0.out, Nat.add_zero] at this
    exact this
  have HC1 : Hid (∀ x : Hi w1, x.W.cell? ⟨b, off + 1, none⟩ = some (.int .u8 G1)) := fun x => by
    have := ((hb.on x.below).first (by rw [HT.out]; omega))
    obtain ⟨b', off', n', cap', e', _, hc'⟩ := this
    injection e' with e' _ _
    cases e'
    have := hc' 1 (by rw [HT.out]; omega)
    rw [HG1.out] at this
    exact this
  rw [HT.out]
  have HF : Hid (∀ X, Below w1.heap.size w1 X → RB S X R (rest.drop 2) (at' + 2) c nx left') := fun X hX => hr.on hX
  have HO : Hid (Only R W w1) := ho
  have kc := HC.out (Hi.refl w1)
  clear hb hr ho hc hn HR HT HG0 HG1 kc
  go_wp2_with fail
  refine region_mid (fun a0 a' w' => a' = (((((((((((a0.put (some 6) (.slice (some ⟨b, off, none⟩) 2 cap)).put (some 7) (.pointer (some ⟨b, off, none⟩))).put (some 8) (.int .u8 G0)).put (some 9) (.int .u16 G0)).put (some 10) (.int .u16 (G0 * 256))).put (some 11) (.slice (some ⟨b, off, none⟩) 2 cap)).put (some 12) (.pointer (some ⟨b, off + 1, none⟩))).put (some 13) (.int .u8 G1)).put (some 14) (.int .u16 G1)).put (some 15) (.int .u16 (G0 * 256 + G1))).put (some 2) (.int .u16 (G0 * 256 + G1))) ∧ w' = w1.drew) ?_ ?_
  · skip
    refine wp_region_held (S := fun X => X.cell? ⟨b, off, none⟩ = some (.int .u8 G0) ∧ X.cell? ⟨b, off + 1, none⟩ = some (.int .u8 G1)) (by kernel_rfl) ?_
    show wpAnyH _ _ _ _ _ 11 (Array.replicate 11 false) _ _
    have hs0 : w1.drew.cell? ⟨b, off, none⟩ = some (.int .u8 G0) ∧ w1.drew.cell? ⟨b, off + 1, none⟩ = some (.int .u8 G1) := ⟨HC.out ⟨_, (Below.refl _ w1).drew⟩, HC1.out ⟨_, (Below.refl _ w1).drew⟩⟩
    refine take_one (i := 0) (d := some 6) (v := .slice (some ⟨b, off, none⟩) 2 cap) rfl rfl rfl (by kernel_rfl) (by kernel_rfl) (by kernel_rfl) (fun _ _ _ _ _ h => h.elim) (fun W hS => by kernel_rfl) hs0 ?_
    simp only [Act.put, List.setIfInBounds_toArray, List.set_cons_zero, List.set_cons_succ]
    refine take_one (i := 1) (d := some 7) (v := .pointer (some ⟨b, off, none⟩)) rfl rfl rfl (by kernel_rfl) (by kernel_rfl) (by kernel_rfl) (fun _ _ _ _ _ h => h.elim) (fun W hS => by kernel_rfl) hs0 ?_
    simp only [Act.put, List.setIfInBounds_toArray, List.set_cons_zero, List.set_cons_succ]
    refine take_one (i := 2) (d := some 8) (v := .int .u8 G0) rfl rfl rfl (by kernel_rfl) (by kernel_rfl) (by kernel_rfl) (fun _ _ _ _ _ h => h.elim) (fun W hS => ex_loadA (.tmp 7) 5 rfl rfl (ld_u8 hS.1)) hs0 ?_
    simp only [Act.put, List.setIfInBounds_toArray, List.set_cons_zero, List.set_cons_succ]
    refine take_one (i := 3) (d := some 9) (v := .int .u16 G0) rfl rfl rfl (by kernel_rfl) (by kernel_rfl) (by kernel_rfl) (fun _ _ _ _ _ h => h.elim) (fun W hS => cv816 (.tmp 8) rfl rfl f0) hs0 ?_
    simp only [Act.put, List.setIfInBounds_toArray, List.set_cons_zero, List.set_cons_succ]
    refine take_one (i := 4) (d := some 10) (v := .int .u16 (G0 * 256)) rfl rfl rfl (by kernel_rfl) (by kernel_rfl) (by kernel_rfl) (fun _ _ _ _ _ h => h.elim) (fun W hS => shl8 (.tmp 9) rfl rfl m1) hs0 ?_
    simp only [Act.put, List.setIfInBounds_toArray, List.set_cons_zero, List.set_cons_succ]
    refine take_one (i := 5) (d := some 11) (v := .slice (some ⟨b, off, none⟩) 2 cap) rfl rfl rfl (by kernel_rfl) (by kernel_rfl) (by kernel_rfl) (fun _ _ _ _ _ h => h.elim) (fun W hS => by kernel_rfl) hs0 ?_
    simp only [Act.put, List.setIfInBounds_toArray, List.set_cons_zero, List.set_cons_succ]
    refine take_one (i := 6) (d := some 12) (v := .pointer (some ⟨b, off + 1, none⟩)) rfl rfl rfl (by kernel_rfl) (by kernel_rfl) (by kernel_rfl) (fun _ _ _ _ _ h => h.elim) (fun W hS => by kernel_rfl) hs0 ?_
    simp only [Act.put, List.setIfInBounds_toArray, List.set_cons_zero, List.set_cons_succ]
    refine take_one (i := 7) (d := some 13) (v := .int .u8 G1) rfl rfl rfl (by kernel_rfl) (by kernel_rfl) (by kernel_rfl) (fun _ _ _ _ _ h => h.elim) (fun W hS => ex_loadA (.tmp 12) 5 rfl rfl (ld_u8 hS.2)) hs0 ?_
    simp only [Act.put, List.setIfInBounds_toArray, List.set_cons_zero, List.set_cons_succ]
    refine take_one (i := 8) (d := some 14) (v := .int .u16 G1) rfl rfl rfl (by kernel_rfl) (by kernel_rfl) (by kernel_rfl) (fun _ _ _ _ _ h => h.elim) (fun W hS => cv816 (.tmp 13) rfl rfl f1) hs0 ?_
    simp only [Act.put, List.setIfInBounds_toArray, List.set_cons_zero, List.set_cons_succ]
    refine take_one (i := 9) (d := some 15) (v := .int .u16 (G0 * 256 + G1)) rfl rfl rfl (by kernel_rfl) (by kernel_rfl) (by kernel_rfl) (fun _ _ _ _ _ h => h.elim) (fun W hS => or16 (.tmp 10) (.tmp 14) rfl rfl rfl hor) hs0 ?_
    simp only [Act.put, List.setIfInBounds_toArray, List.set_cons_zero, List.set_cons_succ]
    refine take_one (i := 10) (d := some 2) (v := .int .u16 (G0 * 256 + G1)) rfl rfl rfl (by kernel_rfl) (by kernel_rfl) (by kernel_rfl) (fun _ _ _ _ _ h => h.elim) (fun W hS => by kernel_rfl) hs0 ?_
    simp only [Act.put, List.setIfInBounds_toArray, List.set_cons_zero, List.set_cons_succ]
    refine wpAnyH_done (by kernel_rfl) ?_ _
    exact ⟨rfl, rfl⟩
  · rintro a' w' ⟨rfl, rfl⟩
    simp only [Act.put, List.setIfInBounds_toArray, List.set_cons_zero, List.set_cons_succ]
    have HFX : Hid (RB S w1.drew R (rest.drop 2) (at' + 2) c nx left' ∧ Only R W w1.drew) := ⟨HF.out _ ((Below.refl _ w1).drew), HO.out.drew⟩
    generalize w1.drew = wx at *
    clear HC HC1 HF HO hor m1
    go_wp2
    go_ret
    exact ⟨left', rfl, HFX.out⟩
set_option maxHeartbeats 4000000 in
set_option maxRecDepth 100000 in
theorem long_calls (h : RB S W R rest at' c nx left) (hp : 4 ≤ rest.length) (hlim : at' + 4 ≤ 1000000000000000) :
    Calls Tryz.prog 233 #[.pointer (some ⟨R, 0, none⟩)] W fun e w' => ∃ left', e = .returned (.int .u32 (gz rest 0 * 16777216 + gz rest 1 * 65536 + gz rest 2 * 256 + gz rest 3)) ∧ RB S w' R (rest.drop 4) (at' + 4) c nx left' ∧ Only R W w' := by
  have HW1 : Hid _ := word_calls h (by omega) (by omega)
  have HW2 : Hid (∀ X l, RB S X R (rest.drop 2) (at' + 2) c nx l → Calls Tryz.prog 234 #[.pointer (some ⟨R, 0, none⟩)] X fun e w' => ∃ left', e = .returned (.int .u16 (gz rest 2 * 256 + gz rest 3)) ∧ RB S w' R (rest.drop 4) (at' + 4) c nx left' ∧ Only R X w') := fun X l hX => by
    have := word_calls hX (by rw [List.length_drop]; omega) (by omega)
    rw [List.drop_drop] at this
    have g2 : gz (rest.drop 2) 0 = gz rest 2 := by unfold gz; rw [List.getElem?_drop]
    have g3 : gz (rest.drop 2) 1 = gz rest 3 := by unfold gz; rw [List.getElem?_drop]
    rw [g2, g3] at this
    exact this
  have f0 := gz_fit h.byt.row.fit 0
  have f1 := gz_fit h.byt.row.fit 1
  have f2 := gz_fit h.byt.row.fit 2
  have f3 := gz_fit h.byt.row.fit 3
  generalize gz rest 0 = G0 at *
  generalize gz rest 1 = G1 at *
  generalize gz rest 2 = G2 at *
  generalize gz rest 3 = G3 at *
  obtain ⟨A1, hA1⟩ : ∃ A1, G0 * 256 + G1 = A1 := ⟨_, rfl⟩
  obtain ⟨A2, hA2⟩ : ∃ A2, G2 * 256 + G3 = A2 := ⟨_, rfl⟩
  rw [hA1] at HW1
  rw [hA2] at HW2
  have hor : bits .or .u32 (A1 * 65536) A2 = A1 * 65536 + A2 := by
    obtain ⟨x, hx⟩ := Int.eq_ofNat_of_zero_le (show 0 ≤ A1 by omega)
    obtain ⟨y, hy⟩ := Int.eq_ofNat_of_zero_le (show 0 ≤ A2 by omega)
    rw [hx, hy, show ((x : Int) * 65536) = ((x * 65536 : Nat) : Int) by omega, u32_or_nat _ _ (by omega) (by omega), show x * 65536 = 2 ^ 16 * x by omega, Nat.or_comm, or_hi y x 16 (by omega)]
    omega
  have m1 : A1 * 65536 % 4294967296 = A1 * 65536 := by omega
  have m2 : A2 % 4294967296 = A2 := by omega
  have m3 : A1 % 4294967296 = A1 := by omega
  have HEQ : Hid (A1 * 65536 + A2 = G0 * 16777216 + G1 * 65536 + G2 * 256 + G3) := by show _ = _; omega
  clear h f0 f1 f2 f3 hA1 hA2
  go_enter Tryz.func233, Tryz.ntmps233
  go_wp2_with fail
  refine Calls.mono HW1.out ?_
  rintro e w1 ⟨l1, rfl, hr1, ho1⟩
  have HO1 : Hid (Only R W w1) := ho1
  have HC2 : Hid _ := HW2.out _ _ hr1
  clear hr1 ho1 HW1 HW2
  go_wp2_with fail
  refine Calls.mono HC2.out ?_
  rintro e w2 ⟨l2, rfl, hr2, ho2⟩
  have HF : Hid (RB S w2 R (rest.drop 4) (at' + 4) c nx l2 ∧ Only R W w2) := ⟨hr2, HO1.out.trans ho2⟩
  clear hr2 ho2 HC2 HO1
  go_wp2
  go_ret
  exact ⟨l2, by show Ending.returned (.int .u32 (A1 * 65536 + A2)) = _; rw [HEQ.out], HF.out⟩
end
end Go.Proofs.YtpgnnplpcalbbaaGreat.V6
namespace Go.Proofs.YtpgnnplpcalbbaaGreat.V6
open Go Go.RowKit
theorem st_u8 {W : World} {b j : Nat} {c : List Value} {t : TypeId} (h : W.heap[b]? = some (.cells c.toArray t)) (hj : j < c.length) (x : Int) : (Instr.storeAt 5 (.pointer (some ⟨b, j, none⟩)) (.int .u8 x)).run Tryz.prog W = .ok () (W.setCell ⟨b, j, none⟩ (.int .u8 x)) := by
  have h1 : W.cell? ⟨b, j, none⟩ = some (c[j]'hj) := blk_cell h (by simp)
  have h2 := blk_open h j
  simp [Instr.storeAt, go_sem, h1, h2]
def fltP (at' e : Int) : PanicEntry := { v := .iface 218 (.agg #[.int .i64 at', .int .i64 e]), recovered := false }
set_option maxHeartbeats 1000000 in
theorem must_bad (at' e : Int) (w : World) : Calls Tryz.prog 193 #[.bool false, .int .i64 at', .int .i64 e] w fun e' w' => e' = .panicked [fltP at' e] ∧ w' = w := by
  unfold fltP
  go_enter Tryz.func193, Tryz.ntmps193
  go_wp2
  exact ⟨rfl, rfl, rfl⟩
set_option maxHeartbeats 1000000 in
theorem must_good (at' e : Int) (w : World) : Calls Tryz.prog 193 #[.bool true, .int .i64 at', .int .i64 e] w fun e' w' => e' = .returned (.tuple #[]) ∧ w' = w := by
  go_enter Tryz.func193, Tryz.ntmps193
  go_wp2
  go_end0
  exact ⟨rfl, rfl⟩
theorem and_label (N : Int) (h : 0 ≤ N ∧ N ≤ 4294967295) : bits .and .u32 N 1048575 = N % 1048576 := by
  obtain ⟨x, rfl⟩ := Int.eq_ofNat_of_zero_le h.1
  rw [show (1048575 : Int) = ((1048575 : Nat) : Int) from rfl, u32_and_nat x 1048575 (by omega) (by omega), show (1048575 : Nat) = 2 ^ 20 - 1 from rfl, Nat.and_two_pow_sub_one_eq_mod]
  omega
/-- What a reader begins with. -/
def fst4 (cls lab : Int) : F6 := ⟨cls, lab, 0, 0, List.replicate 32 (.int .u8 0), rfl, fun v hv => by rw [(List.mem_replicate.1 hv).2]; rfl⟩
def clsN (zs : List Int) : Int := gz zs 0 % 16 * 16 + gz zs 1 / 16
def labN (zs : List Int) : Int := gz zs 1 % 16 * 65536 + gz zs 2 * 256 + gz zs 3
abbrev c0 (cls lab : Int) : List Value := vC (fst4 cls lab) zG (.slice none 0 0) (.slice none 0 0)
section
variable {w : World} {v : Value} {zs : List Int}
set_option maxHeartbeats 4000000 in
set_option maxRecDepth 100000 in
theorem begin_short (h : BS (fun b => b < w.heap.size) w v zs) (hl : zs.length < 40) : Calls Tryz.prog 192 #[v] w fun e w' => e = .panicked [fltP 0 50] ∧ Below w.heap.size w w' := by
  obtain ⟨_, _, a, cap, rfl, _⟩ := h.row
  have q : decide ((40 : Int) ≤ (zs.length : Int)) = false := by simp; omega
  clear h
  generalize zs.length = n at *
  go_enter Tryz.func192, Tryz.ntmps192
  go_wp2_with fail
  refine Calls.mono (must_bad _ _ _) ?_
  rintro e w1 ⟨rfl, hw⟩
  obtain rfl := hw.symm
  exact ⟨rfl, rfl, Below.refl _ _⟩
set_option maxHeartbeats 4000000 in
set_option maxRecDepth 100000 in
theorem begin_long (h : BS (fun b => b < w.heap.size) w v zs) (hl : 40 ≤ zs.length) (X : Ending → World → Prop)
    (hno : gz zs 0 / 16 ≠ 6 → ∀ w', Below w.heap.size w w' → X (.panicked [fltP 0 51]) w')
    (hyes : gz zs 0 / 16 = 6 → ∀ w' left, RB (fun b => b < w.heap.size) w' w.heap.size (zs.drop 6) 6 (c0 (clsN zs) (labN zs)) 0 left → Below w.heap.size w w' → X (.returned (.tuple #[.pointer (some ⟨w.heap.size, 0, none⟩), .int .i64 (lenN zs)])) w') :
    Calls Tryz.prog 192 #[v] w X := by
  have hs1 := h.one
  obtain ⟨W0, hW0⟩ : ∃ W0, W0 = w.alloc (RBox v 0 zeroV 0) := ⟨_, rfl⟩
  have hB0 : Below w.heap.size w W0 := by rw [hW0]; exact (Below.refl w.heap.size w).alloc (Nat.le_refl _) _
  have hR0 : RB (fun b => b < w.heap.size) W0 w.heap.size zs 0 zeroV 0 v := ⟨by rw [hW0]; exact blk_new w _, h.on hB0, by omega, by omega⟩
  have HLG : Hid _ := long_calls hR0 (by omega) (by omega)
  have HB0 : Hid (Below w.heap.size w W0) := hB0
  have f0 := gz_fit h.row.fit 0
  have f1 := gz_fit h.row.fit 1
  have f2 := gz_fit h.row.fit 2
  have f3 := gz_fit h.row.fit 3
  obtain ⟨N, hN⟩ : ∃ N, gz zs 0 * 16777216 + gz zs 1 * 65536 + gz zs 2 * 256 + gz zs 3 = N := ⟨_, rfl⟩
  rw [hN] at HLG
  have hNr : 0 ≤ N ∧ N ≤ 4294967295 := by omega
  have hv28 : N / 268435456 = gz zs 0 / 16 := by omega
  have hcl : N / 1048576 % 256 = clsN zs := by unfold clsN; omega
  have hlb : N % 1048576 = labN zs := by unfold labN; omega
  have hand := and_label N hNr
  rw [hlb] at hand
  have HW2 : Hid (∀ Y c l, RB (fun b => b < w.heap.size) Y w.heap.size (zs.drop 4) 4 c 0 l → Calls Tryz.prog 234 #[.pointer (some ⟨w.heap.size, 0, none⟩)] Y fun e w' => ∃ left', e = .returned (.int .u16 (lenN zs)) ∧ RB (fun b => b < w.heap.size) w' w.heap.size (zs.drop 6) 6 c 0 left' ∧ Only w.heap.size Y w') := fun Y c l hY => by
    have := word_calls hY (by rw [List.length_drop]; omega) (by omega)
    rw [List.drop_drop] at this
    have g2 : gz (zs.drop 4) 0 = gz zs 4 := by unfold gz; rw [List.getElem?_drop]
    have g3 : gz (zs.drop 4) 1 = gz zs 5 := by unfold gz; rw [List.getElem?_drop]
    rw [g2, g3] at this
    exact this
  have hln : 0 ≤ lenN zs ∧ lenN zs < 65536 := by
    have f4 := gz_fit h.row.fit 4
    have f5 := gz_fit h.row.fit 5
    unfold lenN; omega
  obtain ⟨_, _, a, cap, e, _⟩ := h.row
  subst e
  have q : decide ((40 : Int) ≤ (zs.length : Int)) = true := by simp; omega
  have HNO : Hid _ := hno
  have HYES : Hid _ := hyes
  have HZ6 : Hid _ := hv28
  generalize hcE : clsN zs = CL at *
  generalize hlE : labN zs = LB at *
  generalize hnE : lenN zs = LN at *
  generalize hLe : zs.length = zl at *
  have hW : w.alloc (.cells (#[.slice a zl cap, .int .i64 0, .int .u8 0, .int .u32 0, .int .u8 0, .int .u8 0, .int .u8 0, .int .u8 0, .int .u8 0, .int .u8 0, .int .u8 0, .int .u8 0, .int .u8 0, .int .u8 0, .int .u8 0, .int .u8 0, .int .u8 0, .int .u8 0, .int .u8 0, .int .u8 0, .int .u8 0, .int .u8 0, .int .u8 0, .int .u8 0, .int .u8 0, .int .u8 0, .int .u8 0, .int .u8 0, .int .u8 0, .int .u8 0, .int .u8 0, .int .u8 0, .int .u8 0, .int .u8 0, .int .u8 0, .int .u8 0, .int .u8 0, .slice none 0 0, .bool false, .int .u32 0, .int .i64 0, .bool false, .int .u8 0, .slice none 0 0, .int .u8 0] : Array Value) 263) = W0 := hW0.symm
  clear h hR0 hB0 hN hW0 hno hyes hv28 hlb f0 f1 f2 f3 hcE hlE hnE hLe
  go_enter Tryz.func192, Tryz.ntmps192
  go_wp2_with fail
  refine Calls.mono (must_good _ _ _) ?_
  rintro e w1 ⟨rfl, hw⟩
  obtain rfl := hw.symm
  clear hw
  go_wp2_with fail
  refine Calls.mono HLG.out ?_
  rintro e w2 ⟨l2, rfl, hr2, ho2⟩
  have HR2 : Hid (RB (fun b => b < w.heap.size) w2 w.heap.size (zs.drop 4) 4 zeroV 0 l2) := by rw [Nat.zero_add] at hr2; exact hr2
  have HB2 : Hid (Below w.heap.size w w2) := HB0.out.trans (ho2.below (Nat.le_refl _))
  clear hr2 ho2 HLG HB0 hW
  by_cases h6 : gz zs 0 / 16 = 6
  · have q6 : (N / 268435456 == 6) = true := by have := HZ6.out; simp; omega
    obtain ⟨w3, hst3, hr3, hon3⟩ : ∃ w3, (Instr.storeAt 5 (.pointer (some ⟨w.heap.size, 2, none⟩)) (.int .u8 CL)).run Tryz.prog w2 = .ok () w3 ∧ RB (fun b => b < w.heap.size) w3 w.heap.size (zs.drop 4) 4 (zeroV.set 0 (.int .u8 CL)) 0 l2 ∧ Only w.heap.size w2 w3 := ⟨_, st_u8 HR2.out.box (j := 2) (by rw [rC_len]; decide) CL, HR2.out.put (j := 0) (by decide) (.int .u8 CL), (Only.refl _ w2).set 2 _⟩
    obtain ⟨w4, hst4, hr4, hon4⟩ : ∃ w4, (Instr.storeAt 33 (.pointer (some ⟨w.heap.size, 3, none⟩)) (.int .u32 LB)).run Tryz.prog w3 = .ok () w4 ∧ RB (fun b => b < w.heap.size) w4 w.heap.size (zs.drop 4) 4 ((zeroV.set 0 (.int .u8 CL)).set 1 (.int .u32 LB)) 0 l2 ∧ Only w.heap.size w3 w4 := ⟨_, st_u32 hr3.box (j := 3) (by rw [rC_len, List.length_set]; decide) LB, hr3.put (j := 1) (by rw [List.length_set]; decide) (.int .u32 LB), (Only.refl _ w3).set 3 _⟩
    rw [← hcl] at hst3
    have HS3 : Hid _ := hst3
    have HS4 : Hid _ := hst4
    have HC2 : Hid _ := HW2.out _ _ _ hr4
    have HB4 : Hid (Below w.heap.size w w4) := HB2.out.trans ((hon3.trans hon4).below (Nat.le_refl _))
    have HCC : Hid ((zeroV.set 0 (.int .u8 CL)).set 1 (.int .u32 LB) = c0 CL LB) := rfl
    clear hr3 hr4 hst3 hst4 hon3 hon4 hcl
    go_wp2_with fail
    refine Calls.mono (must_good _ _ _) ?_
    rintro e w3 ⟨rfl, hw⟩
    obtain rfl := hw.symm
    clear hw
    go_wp2_with first
      | ((with_reducible show wpList _ _ _ ({ dst := _, op := Op.store 5 (Operand.tmp 31) (Operand.tmp 26), type := _, pos := _, after := _, guard := _ } :: _) _ _); refine armS (.tmp 31) (Operand.tmp 26) 5 rfl rfl rfl rfl HS3.out ?_; try simp only [Act.put])
      | ((with_reducible show wpList _ _ _ ({ dst := _, op := Op.store 33 (Operand.tmp 34) (Operand.tmp 28), type := _, pos := _, after := _, guard := _ } :: _) _ _); refine armS (.tmp 34) (Operand.tmp 28) 33 rfl rfl rfl rfl HS4.out ?_; try simp only [Act.put])
    refine Calls.mono HC2.out ?_
    rintro e w5 ⟨l5, rfl, hr5, ho5⟩
    rw [HCC.out] at hr5
    have HF : Hid (X (.returned (.tuple #[.pointer (some ⟨w.heap.size, 0, none⟩), .int .i64 LN])) w5) := HYES.out h6 w5 l5 hr5 (HB4.out.trans (ho5.below (Nat.le_refl _)))
    clear hr5 ho5 HC2 HNO HYES
    go_wp2
    exact HF.out
  · have q6 : (N / 268435456 == 6) = false := by have := HZ6.out; simp; omega
    go_wp2_with fail
    refine Calls.mono (must_bad _ _ _) ?_
    rintro e w3 ⟨rfl, hw⟩
    obtain rfl := hw.symm
    exact ⟨rfl, HNO.out h6 _ HB2.out⟩
end
end Go.Proofs.YtpgnnplpcalbbaaGreat.V6
namespace Go.Proofs.YtpgnnplpcalbbaaGreat.V6
open Go Go.RowKit
theorem wp_copyA {o : Oper} {a : Act} {d : Option Nat} {w w2 : World} {K : Act → World → Prop} {Q : Exit → Act → World → Prop} (s x : Operand) (t : TypeId) (hop : o.op = Op.call { callee := Callee.builtin Builtin.copy, args := #[s, x], argTypes := #[t, t] }) (hd : o.dst = d) {vs vx v : Value} (hs : a.eval s = vs) (hx : a.eval x = vx) (hrun : (Builtin.copy_ #[t, t] o.type #[vs, vx]).run Tryz.prog w = .ok v w2) (hK : K (a.put d v) w2) : o.wp Tryz.prog a w K Q := by
  subst hd
  unfold Oper.wp
  simp [execOp, hop, resolve, invoke, builtin, hs, hx, hrun, Result.andThen]
  exact hK
theorem rd_load {S : Nat → Prop} {W : World} {R : Nat} {rest : List Int} {at' : Nat} {nx : Int} {left : Value} {f : F6} {g : G6} {vh vb : Value} (h : RB S W R rest at' (vC f g vh vb) nx left) : (Instr.loadAt 36 (.pointer (some ⟨R, 2, none⟩))).run Tryz.prog W = .ok (VV f g vh vb) W := by
  refine agg_load Tryz.isAgg36 Tryz.sizeOf36 vC_len (fun j v hj => ?_)
  rw [Nat.add_comm]
  exact h.at hj
/-- A datagram's fields as they were read. -/
def finF (cls lab hop proto : Int) (A : List Int) (h : A.length = 32) : F6 := ⟨cls, lab, hop, proto, u8L A, by simp [u8L, h], fun v hv => by unfold u8L at hv; obtain ⟨z, _, rfl⟩ := List.mem_map.1 hv; rfl⟩
section
variable {S : Nat → Prop} {W W' : World} {R : Nat} {rest : List Int} {at' : Nat} {c : List Value} {nx : Int} {left : Value}
theorem RB.sets (h : RB S W R rest at' c nx left) (vs : List Value) (j : Nat) (hj : j + vs.length ≤ c.length) : RB S (W.setCells R (j + 2) vs) R rest at' (c.take j ++ vs ++ c.drop (j + vs.length)) nx left := by
  have ho : Only R W (W.setCells R (j + 2) vs) := Only.sets _ _ _ (Only.refl _ _)
  refine ⟨?_, h.byt.sep (Sep.of_only (O := fun b => b = R) ho rfl) (fun b hb e => h.ne (e ▸ hb)), h.ne, h.hi⟩
  rw [blk_sets vs (j + 2) _ _ h.box, setsL_eq vs (j + 2) _ (by rw [rC_len]; omega)]
  unfold rC
  have e1 : (left :: .int .i64 (at' : Int) :: (c ++ [.int .u8 nx])).take (j + 2) = left :: .int .i64 (at' : Int) :: c.take j := by
    simp only [List.take_succ_cons]
    rw [List.take_append_of_le_length (by omega)]
  have e2 : (left :: Value.int .i64 (at' : Int) :: (c ++ [.int .u8 nx])).drop (j + 2 + vs.length) = c.drop (j + vs.length) ++ [.int .u8 nx] := by
    rw [show j + 2 + vs.length = (j + vs.length) + 1 + 1 by omega]
    simp only [List.drop_succ_cons]
    rw [List.drop_append_of_le_length (by omega)]
  rw [e1, e2]
  simp [rC]
theorem RB.off (h : RB S W R rest at' c nx left) {Q : Nat} (ho : Only Q W W') (hQ : Q ≠ R) (hS : ¬ S Q) : RB S W' R rest at' c nx left :=
  ⟨(ho.other _ (fun e => hQ e.symm)).trans h.box, h.byt.sep (Sep.of_only (O := fun b => b = Q) ho rfl) (fun b hb e => hS (e ▸ hb)), h.ne, h.hi⟩
theorem RB.copied {S' : Nat → Prop} {u : Value} {ys : List Int} (h : RB S W R rest at' c nx left) (hc : c.length = 42) (hu : BS S' W u ys) (hy : ys.length = 16) (j : Nat) (hj : j + 16 ≤ 42) (ty : TypeId) :
    ∃ r W2, (Builtin.copy_ #[25, 25] ty #[.slice (some ⟨R, j + 2, none⟩) 16 16, u]).run Tryz.prog W = .ok r W2 ∧ RB S W2 R rest at' (c.take j ++ u8L ys ++ c.drop (j + 16)) nx left ∧ Only R W W2 := by
  have hinf : (Tryz.prog.info? 5).map (·.size) = some 1 := by kernel_rfl
  obtain ⟨sb, so, cap, rfl, _, hlt, hcell⟩ := hu.row.some (by omega)
  have hul : (u8L ys).length = 16 := by simp [u8L, hy]
  refine ⟨_, _, run_copy_cells W _ _ ty 5 R (j + 2) 16 16 ⟨sb, so, none⟩ ys.length cap (u8L ys) Tryz.underlying25 hinf (by rw [hul, hy]; rfl) ?_ (fun i hi => ?_) (fun i _ => blk_open h.box _) (fun v hv => by unfold u8L at hv; obtain ⟨z, _, rfl⟩ := List.mem_map.1 hv; rfl), ?_, Only.sets _ _ _ (Only.refl _ _)⟩
  · intro i x hi
    rw [Go.WideShapes.add_plain]
    unfold u8L at hi
    rw [List.getElem?_map] at hi
    obtain ⟨z, hz, rfl⟩ := Option.map_eq_some_iff.1 hi
    have := hcell i (List.getElem?_eq_some_iff.1 hz).1
    unfold gz at this
    rw [hz] at this
    exact this
  · have hlen : j + 2 + i < (rC left at' c nx).length := by rw [rC_len]; omega
    rw [blk_cell h.box (v := (rC left at' c nx)[j + 2 + i]'hlen) (by simp)]
    rfl
  · have := h.sets (u8L ys) j (by omega)
    rw [hul] at this
    exact this
end
theorem c_fin (a b h : Value) (X Y R1 T : List Value) (hX : X.length = 16) (hR : R1.length = 32) :
    (((([a, b, h] ++ (R1 ++ T)).take 3 ++ X ++ ([a, b, h] ++ (R1 ++ T)).drop (3 + 16)).take 19) ++ Y ++ ((([a, b, h] ++ (R1 ++ T)).take 3 ++ X ++ ([a, b, h] ++ (R1 ++ T)).drop (3 + 16)).drop (19 + 16))) = a :: b :: h :: ((X ++ Y) ++ T) := by
  have e1 : ([a, b, h] ++ (R1 ++ T)).take 3 = [a, b, h] := rfl
  have e2 : ([a, b, h] ++ (R1 ++ T)).drop (3 + 16) = R1.drop 16 ++ T := by
    show (R1 ++ T).drop 16 = _
    rw [List.drop_append_of_le_length (by omega)]
  rw [e1, e2]
  have e3 : ([a, b, h] ++ X ++ (R1.drop 16 ++ T)).take 19 = [a, b, h] ++ X := by
    rw [List.take_append_of_le_length (by simp [hX])]
    exact List.take_of_length_le (by simp [hX])
  have e4 : ([a, b, h] ++ X ++ (R1.drop 16 ++ T)).drop (19 + 16) = T := by
    rw [← List.append_assoc, List.drop_append_of_le_length (by simp [hX, hR])]
    rw [List.drop_of_length_le (by simp [hX, hR])]
    rfl
  rw [e3, e4]
  simp
theorem fin_set (a b h : Value) (X T : List Value) (hX : X.length = 32) (i : Nat) (v : Value) : (a :: b :: h :: (X ++ T)).set (35 + i) v = a :: b :: h :: (X ++ T.set i v) := by
  rw [show 35 + i = (32 + i) + 1 + 1 + 1 by omega]
  simp only [List.set_cons_succ]
  rw [List.set_append_right _ _ (by omega), hX, Nat.add_sub_cancel_left]
section
variable {w : World} {zs : List Int}
set_option maxHeartbeats 4000000 in
set_option maxRecDepth 100000 in
theorem datagram_plain {W : World} {R : Nat} {left : Value} {cls lab : Int} (h : RB (fun b => b < w.heap.size) W R (zs.drop 6) 6 (c0 cls lab) 0 left) (hlo : w.heap.size ≤ R) (hB : Below w.heap.size w W) (hl : 40 ≤ zs.length) (hk : isH (gz zs 6) = false) (hk4 : gz zs 6 ≠ 44) (hA : ((zs.drop 8).take 32).length = 32) :
    Calls Tryz.prog 194 #[.pointer (some ⟨R, 0, none⟩)] W fun e w' => ∃ vb, e = .returned (VV (finF cls lab (gz zs 7) (gz zs 6) ((zs.drop 8).take 32) hA) zG (.slice none 0 0) vb) ∧ BS (fun b => W.heap.size ≤ b) w' vb (zs.drop 40) ∧ Below w.heap.size w w' := by
  have hRl : R < W.heap.size := (Array.getElem?_eq_some_iff.1 h.box).1
  have hws := hB.size
  obtain ⟨W0, hW0⟩ : ∃ W0, W0 = W.alloc (.cells zeroV.toArray 36) := ⟨_, rfl⟩
  have hz0 : W0.heap[W.heap.size]? = some (.cells zeroV.toArray 36) := by rw [hW0]; exact blk_new W _
  have hB0 : Below W.heap.size W W0 := by rw [hW0]; exact (Below.refl W.heap.size W).alloc (Nat.le_refl _) _
  have h0 := h.on hB0
  have HO1 : Hid _ := octet_calls h0 (by rw [List.length_drop]; omega) (by omega)
  have g6 : gz (zs.drop 6) 0 = gz zs 6 := by unfold gz; rw [List.getElem?_drop]
  have g7 : gz (zs.drop 7) 0 = gz zs 7 := by unfold gz; rw [List.getElem?_drop]
  rw [g6, List.drop_drop] at HO1
  have HZ0 : Hid (W0.heap[W.heap.size]? = some (.cells zeroV.toArray 36)) := hz0
  have HB0 : Hid (Below w.heap.size w W0) := hB.trans (hB0.mono hws)
  have HG7 : Hid _ := g7
  have HF : Hid (Fit zs → True) := fun _ => trivial
  have hfit6 : 0 ≤ gz zs 6 ∧ gz zs 6 < 256 := by
    rw [← g6]; exact gz_fit h.byt.row.fit 0
  obtain ⟨K6, hK6⟩ : ∃ K, gz zs 6 = K := ⟨_, rfl⟩
  obtain ⟨K7, hK7⟩ : ∃ K, gz zs 7 = K := ⟨_, rfl⟩
  rw [hK6] at hk hk4 HO1 hfit6 ⊢
  rw [hK7] at HG7 ⊢
  obtain ⟨W0s, hW0s⟩ : ∃ s, W0.heap.size = s := ⟨_, rfl⟩
  have hW0e : W0.heap.size = W.heap.size + 1 := by rw [hW0]; simp
  obtain ⟨FF, hFF⟩ : ∃ FF, finF cls lab K7 K6 ((zs.drop 8).take 32) hA = FF := ⟨_, rfl⟩
  rw [hFF]
  have HFF : Hid _ := hFF
  have q44 : (K6 == 44) = false := by simpa using hk4
  have HIS : Hid (∀ X, Calls Tryz.prog 204 #[.int .u8 K6] X fun e w' => e = .returned (.bool false) ∧ w' = X) := fun X => by
    have := isHead_calls K6 X
    rw [hk] at this
    exact this
  have hW := hW0.symm
  unfold zeroV at hW
  have HNW : Hid (¬ (W.heap.size < w.heap.size)) := by show ¬ _; omega
  clear h h0 hz0 hB0 hW0 hk hk4 g6 g7 hK6 hK7 hFF hW0s
  go_enter Tryz.func194, Tryz.ntmps194
  go_wp2_with fail
  refine Calls.mono HO1.out ?_
  rintro e w1 ⟨l1, rfl, hr1, ho1⟩
  obtain ⟨w2, hst2, hr2, hon2⟩ : ∃ w2, (Instr.storeAt 5 (.pointer (some ⟨R, 44, none⟩)) (.int .u8 K6)).run Tryz.prog w1 = .ok () w2 ∧ RB (fun b => b < w.heap.size) w2 R (zs.drop 7) 7 (c0 cls lab) K6 l1 ∧ Only R w1 w2 := ⟨_, st_u8 hr1.box (j := 44) (by rw [rC_len, vC_len]; decide) K6, hr1.next K6 (n := 42) vC_len, (Only.refl _ w1).set 44 _⟩
  have HS2 : Hid _ := hst2
  have ho2 := ho1.trans hon2
  have HON2 : Hid (Only R W0 w2) := ho2
  have HO2 : Hid _ := octet_calls hr2 (by rw [List.length_drop]; omega) (by omega)
  rw [HG7.out, List.drop_drop] at HO2
  clear hr1 ho1 hst2 hr2 hon2 ho2 HO1
  go_wp2_with first
    | ((with_reducible show wpList _ _ _ ({ dst := _, op := Op.store 5 (Operand.tmp 9) (Operand.tmp 7), type := _, pos := _, after := _, guard := _ } :: _) _ _); refine armS (.tmp 9) (Operand.tmp 7) 5 rfl rfl rfl rfl HS2.out ?_; try simp only [Act.put])
  refine Calls.mono HO2.out ?_
  rintro e w3 ⟨l3, rfl, hr3, ho3⟩
  obtain ⟨w4, hst4, hr4, hon4⟩ : ∃ w4, (Instr.storeAt 5 (.pointer (some ⟨R, 4, none⟩)) (.int .u8 K7)).run Tryz.prog w3 = .ok () w4 ∧ RB (fun b => b < w.heap.size) w4 R (zs.drop 8) 8 ((c0 cls lab).set 2 (.int .u8 K7)) K6 l3 ∧ Only R w3 w4 := ⟨_, st_u8 hr3.box (j := 4) (by rw [rC_len, vC_len]; decide) K7, hr3.put (j := 2) (by rw [vC_len]; decide) (.int .u8 K7), (Only.refl _ w3).set 4 _⟩
  have HS4 : Hid _ := hst4
  have HON4 : Hid (Only R W0 w4) := HON2.out.trans (ho3.trans hon4)
  have HR4 : Hid (RB (fun b => b < w.heap.size) w4 R (zs.drop 8) 8 ((c0 cls lab).set 2 (.int .u8 K7)) K6 l3) := hr4
  clear hr3 ho3 hst4 hr4 hon4 HO2 HON2
  go_wp2_with first
    | ((with_reducible show wpList _ _ _ ({ dst := _, op := Op.store 5 (Operand.tmp 17) (Operand.tmp 14), type := _, pos := _, after := _, guard := _ } :: _) _ _); refine armS (.tmp 17) (Operand.tmp 14) 5 rfl rfl rfl rfl HS4.out ?_; try simp only [Act.put])
  refine region_mid (fun a0 a' w' => ∃ v26 v27 l5, a' = ((((((((((a0.put (some 18) (.pointer (some ⟨R, 0, none⟩))).put (some 19) (.pointer (some ⟨R, 0, none⟩))).put (some 20) (.pointer (some ⟨R, 2, none⟩))).put (some 21) (.pointer (some ⟨R, 5, none⟩))).put (some 22) (.slice (some ⟨R, 5, none⟩) 16 16)).put (some 23) (.pointer (some ⟨R, 0, none⟩))).put (some 24) (.pointer (some ⟨R, 0, none⟩))).put (some 25) (.pointer (some ⟨R, 0, none⟩))).put (some 26) (v26)).put (some 27) (v27)) ∧ RB (fun b => b < w.heap.size) w' R (zs.drop 24) 24 (((c0 cls lab).set 2 (.int .u8 K7)).take 3 ++ u8L ((zs.drop 8).take 16) ++ ((c0 cls lab).set 2 (.int .u8 K7)).drop (3 + 16)) K6 l5 ∧ Only R W0 w') ?_ ?_
  · skip
    refine wp_region_held (S := fun _ => True) (by kernel_rfl) ?_
    show wpAnyH _ _ _ _ _ 10 (Array.replicate 10 false) _ _
    refine take_one (i := 0) (d := some 18) (v := .pointer (some ⟨R, 0, none⟩)) rfl rfl rfl (by kernel_rfl) (by kernel_rfl) (by kernel_rfl) (fun _ _ _ _ _ h => h.elim) (fun W hS => by kernel_rfl) trivial ?_
    simp only [Act.put, List.setIfInBounds_toArray, List.set_cons_zero, List.set_cons_succ]
    refine take_one (i := 1) (d := some 19) (v := .pointer (some ⟨R, 0, none⟩)) rfl rfl rfl (by kernel_rfl) (by kernel_rfl) (by kernel_rfl) (fun _ _ _ _ _ h => h.elim) (fun W hS => by kernel_rfl) trivial ?_
    simp only [Act.put, List.setIfInBounds_toArray, List.set_cons_zero, List.set_cons_succ]
    refine take_one (i := 2) (d := some 20) (v := .pointer (some ⟨R, 2, none⟩)) rfl rfl rfl (by kernel_rfl) (by kernel_rfl) (by kernel_rfl) (fun _ _ _ _ _ h => h.elim) (fun W hS => by kernel_rfl) trivial ?_
    simp only [Act.put, List.setIfInBounds_toArray, List.set_cons_zero, List.set_cons_succ]
    refine take_one (i := 3) (d := some 21) (v := .pointer (some ⟨R, 5, none⟩)) rfl rfl rfl (by kernel_rfl) (by kernel_rfl) (by kernel_rfl) (fun _ _ _ _ _ h => h.elim) (fun W hS => by kernel_rfl) trivial ?_
    simp only [Act.put, List.setIfInBounds_toArray, List.set_cons_zero, List.set_cons_succ]
    refine take_one (i := 4) (d := some 22) (v := .slice (some ⟨R, 5, none⟩) 16 16) rfl rfl rfl (by kernel_rfl) (by kernel_rfl) (by kernel_rfl) (fun _ _ _ _ _ h => h.elim) (fun W hS => by kernel_rfl) trivial ?_
    simp only [Act.put, List.setIfInBounds_toArray, List.set_cons_zero, List.set_cons_succ]
    refine take_one (i := 5) (d := some 23) (v := .pointer (some ⟨R, 0, none⟩)) rfl rfl rfl (by kernel_rfl) (by kernel_rfl) (by kernel_rfl) (fun _ _ _ _ _ h => h.elim) (fun W hS => by kernel_rfl) trivial ?_
    simp only [Act.put, List.setIfInBounds_toArray, List.set_cons_zero, List.set_cons_succ]
    refine take_one (i := 6) (d := some 24) (v := .pointer (some ⟨R, 0, none⟩)) rfl rfl rfl (by kernel_rfl) (by kernel_rfl) (by kernel_rfl) (fun _ _ _ _ _ h => h.elim) (fun W hS => by kernel_rfl) trivial ?_
    simp only [Act.put, List.setIfInBounds_toArray, List.set_cons_zero, List.set_cons_succ]
    refine take_one (i := 7) (d := some 25) (v := .pointer (some ⟨R, 0, none⟩)) rfl rfl rfl (by kernel_rfl) (by kernel_rfl) (by kernel_rfl) (fun _ _ _ _ _ h => h.elim) (fun W hS => by kernel_rfl) trivial ?_
    simp only [Act.put, List.setIfInBounds_toArray, List.set_cons_zero, List.set_cons_succ]
    have hrd := HR4.out.on ((Below.refl _ w4).drew)
    have hrun := run_calls hrd 16 (by rw [List.length_drop]; omega) (by rw [List.length_drop]; omega) (by omega)
    refine all_one (i := 8) (by kernel_rfl) rfl rfl ?_
    refine wp_call (d := some 26) (R := fun v X => ∃ l, BS (fun b => b < w.heap.size) X v ((zs.drop 8).take 16) ∧ RB (fun b => b < w.heap.size) X R (zs.drop 24) 24 ((c0 cls lab).set 2 (.int .u8 K7)) K6 l ∧ Only R w4 X) 236 _ rfl (by kernel_rfl) (hrun.mono (fun e X hx => by obtain ⟨u, l, he, hb, hr, ho⟩ := hx; rw [List.drop_drop] at hr; exact ⟨u, he, l, hb, hr, (((Only.refl R w4).drew).trans ho)⟩)) ?_
    rintro u X1 ⟨l5, hbu, hrx, hox⟩
    refine ⟨trivial, ?_⟩
    simp only [Act.put, List.setIfInBounds_toArray, List.set_cons_zero, List.set_cons_succ]
    obtain ⟨rc, X2, hcp, hr2, ho2⟩ := hrx.copied (by simp [vC_len]) hbu (by rw [List.length_take, List.length_drop]; omega) 3 (by omega) 3
    refine all_one (i := 9) (by kernel_rfl) rfl rfl ?_
    refine wp_copyA (d := some 27) (.tmp 22) (.tmp 26) 25 rfl rfl rfl rfl hcp ⟨trivial, ?_⟩
    simp only [Act.put, List.setIfInBounds_toArray, List.set_cons_zero, List.set_cons_succ]
    refine wpAnyH_done (by kernel_rfl) ?_ _
    exact ⟨u, rc, l5, rfl, hr2, HON4.out.trans (hox.trans ho2)⟩
  · rintro a' w5 ⟨v26, v27, l5, rfl, hr5, ho5⟩
    simp only [Act.put, List.setIfInBounds_toArray, List.set_cons_zero, List.set_cons_succ]
    have HR5 : Hid (RB (fun b => b < w.heap.size) w5 R (zs.drop 24) 24 (((c0 cls lab).set 2 (.int .u8 K7)).take 3 ++ u8L ((zs.drop 8).take 16) ++ ((c0 cls lab).set 2 (.int .u8 K7)).drop (3 + 16)) K6 l5) := hr5
    have HON5 : Hid (Only R W0 w5) := ho5
    clear hr5 ho5 HR4 HON4
    obtain ⟨C5, hC5⟩ : ∃ C5, ((c0 cls lab).set 2 (.int .u8 K7)).take 3 ++ u8L ((zs.drop 8).take 16) ++ ((c0 cls lab).set 2 (.int .u8 K7)).drop (3 + 16) = C5 := ⟨_, rfl⟩
    have hC5l : C5.length = 42 := by
      rw [← hC5]
      have h16 : (u8L ((zs.drop 8).take 16)).length = 16 := by unfold u8L; rw [List.length_map, List.length_take, List.length_drop]; omega
      have hVl : ((c0 cls lab).set 2 (.int .u8 K7)).length = 42 := by rw [List.length_set]; exact vC_len
      rw [List.length_append, List.length_append, List.length_take, List.length_drop, hVl, h16]
      rfl
    rw [hC5] at HR5
    have HC5 : Hid _ := hC5
    clear hC5
    go_wp2_with fail
    refine region_mid (fun a0 a' w' => ∃ v36 v37 l6, a' = ((((((((((a0.put (some 28) (.pointer (some ⟨R, 0, none⟩))).put (some 29) (.pointer (some ⟨R, 0, none⟩))).put (some 30) (.pointer (some ⟨R, 2, none⟩))).put (some 31) (.pointer (some ⟨R, 21, none⟩))).put (some 32) (.slice (some ⟨R, 21, none⟩) 16 16)).put (some 33) (.pointer (some ⟨R, 0, none⟩))).put (some 34) (.pointer (some ⟨R, 0, none⟩))).put (some 35) (.pointer (some ⟨R, 0, none⟩))).put (some 36) (v36)).put (some 37) (v37)) ∧ RB (fun b => b < w.heap.size) w' R (zs.drop 40) 40 (C5.take 19 ++ u8L ((zs.drop 24).take 16) ++ C5.drop (19 + 16)) K6 l6 ∧ Only R W0 w') ?_ ?_
    · skip
      refine wp_region_held (S := fun _ => True) (by kernel_rfl) ?_
      show wpAnyH _ _ _ _ _ 10 (Array.replicate 10 false) _ _
      refine take_one (i := 0) (d := some 28) (v := .pointer (some ⟨R, 0, none⟩)) rfl rfl rfl (by kernel_rfl) (by kernel_rfl) (by kernel_rfl) (fun _ _ _ _ _ h => h.elim) (fun W hS => by kernel_rfl) trivial ?_
      simp only [Act.put, List.setIfInBounds_toArray, List.set_cons_zero, List.set_cons_succ]
      refine take_one (i := 1) (d := some 29) (v := .pointer (some ⟨R, 0, none⟩)) rfl rfl rfl (by kernel_rfl) (by kernel_rfl) (by kernel_rfl) (fun _ _ _ _ _ h => h.elim) (fun W hS => by kernel_rfl) trivial ?_
      simp only [Act.put, List.setIfInBounds_toArray, List.set_cons_zero, List.set_cons_succ]
      refine take_one (i := 2) (d := some 30) (v := .pointer (some ⟨R, 2, none⟩)) rfl rfl rfl (by kernel_rfl) (by kernel_rfl) (by kernel_rfl) (fun _ _ _ _ _ h => h.elim) (fun W hS => by kernel_rfl) trivial ?_
      simp only [Act.put, List.setIfInBounds_toArray, List.set_cons_zero, List.set_cons_succ]
      refine take_one (i := 3) (d := some 31) (v := .pointer (some ⟨R, 21, none⟩)) rfl rfl rfl (by kernel_rfl) (by kernel_rfl) (by kernel_rfl) (fun _ _ _ _ _ h => h.elim) (fun W hS => by kernel_rfl) trivial ?_
      simp only [Act.put, List.setIfInBounds_toArray, List.set_cons_zero, List.set_cons_succ]
      refine take_one (i := 4) (d := some 32) (v := .slice (some ⟨R, 21, none⟩) 16 16) rfl rfl rfl (by kernel_rfl) (by kernel_rfl) (by kernel_rfl) (fun _ _ _ _ _ h => h.elim) (fun W hS => by kernel_rfl) trivial ?_
      simp only [Act.put, List.setIfInBounds_toArray, List.set_cons_zero, List.set_cons_succ]
      refine take_one (i := 5) (d := some 33) (v := .pointer (some ⟨R, 0, none⟩)) rfl rfl rfl (by kernel_rfl) (by kernel_rfl) (by kernel_rfl) (fun _ _ _ _ _ h => h.elim) (fun W hS => by kernel_rfl) trivial ?_
      simp only [Act.put, List.setIfInBounds_toArray, List.set_cons_zero, List.set_cons_succ]
      refine take_one (i := 6) (d := some 34) (v := .pointer (some ⟨R, 0, none⟩)) rfl rfl rfl (by kernel_rfl) (by kernel_rfl) (by kernel_rfl) (fun _ _ _ _ _ h => h.elim) (fun W hS => by kernel_rfl) trivial ?_
      simp only [Act.put, List.setIfInBounds_toArray, List.set_cons_zero, List.set_cons_succ]
      refine take_one (i := 7) (d := some 35) (v := .pointer (some ⟨R, 0, none⟩)) rfl rfl rfl (by kernel_rfl) (by kernel_rfl) (by kernel_rfl) (fun _ _ _ _ _ h => h.elim) (fun W hS => by kernel_rfl) trivial ?_
      simp only [Act.put, List.setIfInBounds_toArray, List.set_cons_zero, List.set_cons_succ]
      have hrd := HR5.out.on ((Below.refl _ w5).drew)
      have hrun := run_calls hrd 16 (by rw [List.length_drop]; omega) (by rw [List.length_drop]; omega) (by omega)
      refine all_one (i := 8) (by kernel_rfl) rfl rfl ?_
      refine wp_call (d := some 36) (R := fun v X => ∃ l, BS (fun b => b < w.heap.size) X v ((zs.drop 24).take 16) ∧ RB (fun b => b < w.heap.size) X R (zs.drop 40) 40 C5 K6 l ∧ Only R w5 X) 236 _ rfl (by kernel_rfl) (hrun.mono (fun e X hx => by obtain ⟨u, l, he, hb, hr, ho⟩ := hx; rw [List.drop_drop] at hr; exact ⟨u, he, l, hb, hr, (((Only.refl R w5).drew).trans ho)⟩)) ?_
      rintro u X1 ⟨l5, hbu, hrx, hox⟩
      refine ⟨trivial, ?_⟩
      simp only [Act.put, List.setIfInBounds_toArray, List.set_cons_zero, List.set_cons_succ]
      obtain ⟨rc, X2, hcp, hr2, ho2⟩ := hrx.copied hC5l hbu (by rw [List.length_take, List.length_drop]; omega) 19 (by omega) 3
      refine all_one (i := 9) (by kernel_rfl) rfl rfl ?_
      refine wp_copyA (d := some 37) (.tmp 32) (.tmp 36) 25 rfl rfl rfl rfl hcp ⟨trivial, ?_⟩
      simp only [Act.put, List.setIfInBounds_toArray, List.set_cons_zero, List.set_cons_succ]
      refine wpAnyH_done (by kernel_rfl) ?_ _
      exact ⟨u, rc, l5, rfl, hr2, HON5.out.trans (hox.trans ho2)⟩
    · rintro a' w6 ⟨v36, v37, l6, rfl, hr6, ho6⟩
      simp only [Act.put, List.setIfInBounds_toArray, List.set_cons_zero, List.set_cons_succ]
      have hC6 : C5.take 19 ++ u8L ((zs.drop 24).take 16) ++ C5.drop (19 + 16) = .int .u8 cls :: .int .u32 lab :: .int .u8 K7 :: (u8L ((zs.drop 8).take 32) ++ [.slice none 0 0, .bool false, .int .u32 0, .int .i64 0, .bool false, .int .u8 0, .slice none 0 0]) := by
        rw [← HC5.out]
        have hX : (u8L ((zs.drop 8).take 16)).length = 16 := by simp [u8L]; omega
        have := c_fin (.int .u8 cls) (.int .u32 lab) (.int .u8 K7) (u8L ((zs.drop 8).take 16)) (u8L ((zs.drop 24).take 16)) (List.replicate 32 (.int .u8 0)) [.slice none 0 0, .bool false, .int .u32 0, .int .i64 0, .bool false, .int .u8 0, .slice none 0 0] hX rfl
        have e32 : u8L ((zs.drop 8).take 16) ++ u8L ((zs.drop 24).take 16) = u8L ((zs.drop 8).take 32) := by
          unfold u8L
          rw [← List.map_append]
          congr 1
          have e24 : zs.drop 24 = (zs.drop 8).drop 16 := by rw [List.drop_drop]
          rw [e24]
          have := List.take_add (l := zs.drop 8) (i := 16) (j := 16)
          exact this.symm
        rw [e32] at this
        exact this
      rw [hC6] at hr6
      obtain ⟨C6, hC6e⟩ : ∃ C6, .int .u8 cls :: .int .u32 lab :: .int .u8 K7 :: (u8L ((zs.drop 8).take 32) ++ [.slice none 0 0, .bool false, .int .u32 0, .int .i64 0, .bool false, .int .u8 0, .slice none 0 0]) = C6 := ⟨_, rfl⟩
      rw [hC6e] at hr6
      have hC6l : C6.length = 42 := by
        rw [← hC6e]
        have hX : (u8L ((zs.drop 8).take 32)).length = 32 := by unfold u8L; rw [List.length_map]; exact hA
        rw [List.length_cons, List.length_cons, List.length_cons, List.length_append, hX]
        rfl
      have HR6 : Hid (RB (fun b => b < w.heap.size) w6 R (zs.drop 40) 40 C6 K6 l6) := hr6
      have HON6 : Hid (Only R W0 w6) := ho6
      have k44 : w6.cell? ⟨R, 44, none⟩ = some (.int .u8 K6) := by
        have e : (C6 ++ [Value.int .u8 K6])[42]? = some (.int .u8 K6) := by
          rw [List.getElem?_append_right (by rw [hC6l]; exact Nat.le_refl _), hC6l]
          rfl
        exact blk_cell hr6.box e
      -- the datagram's Proto and Body
      obtain ⟨w7, hst7, hr7, hon7⟩ : ∃ w7, (Instr.storeAt 5 (.pointer (some ⟨R, 42, none⟩)) (.int .u8 K6)).run Tryz.prog w6 = .ok () w7 ∧ RB (fun b => b < w.heap.size) w7 R (zs.drop 40) 40 (C6.set 40 (.int .u8 K6)) K6 l6 ∧ Only R w6 w7 := ⟨_, st_u8 hr6.box (j := 42) (by rw [rC_len]; omega) K6, hr6.put (j := 40) (by omega) (.int .u8 K6), (Only.refl _ w6).set 42 _⟩
      have HS7 : Hid _ := hst7
      have HCL : Hid _ := Clone_bs l6 (zs.drop 40) w7 hr7.byt.row
      have HL7 : Hid _ := ld_row (hr7.k0) hr7.byt.slc
      have HR7 : Hid (RB (fun b => b < w.heap.size) w7 R (zs.drop 40) 40 (C6.set 40 (.int .u8 K6)) K6 l6) := hr7
      have HON7 : Hid (Only R W0 w7) := ho6.trans hon7
      have HFC : Hid (∀ vb, (C6.set 40 (.int .u8 K6)).set 41 vb = vC FF zG (.slice none 0 0) vb) := fun vb => by
        rw [← hC6e, ← HFF.out]
        have hX : (u8L ((zs.drop 8).take 32)).length = 32 := by unfold u8L; rw [List.length_map]; exact hA
        show ((_ :: _ :: _ :: (u8L ((zs.drop 8).take 32) ++ _)).set (35 + 5) _).set (35 + 6) vb = _
        rw [fin_set _ _ _ _ _ hX, fin_set _ _ _ _ _ hX]
        rfl
      clear hr6 ho6 hC6 hst7 hr7 hon7 HC5 hC6e
      go_wp2_with fail
      go_loopw [] (fun wr => wr = w6) (fun _ => 0)
      case atStart => rfl
      case round =>
        obtain rfl := hrel
        go_wp2_with fail
        refine Calls.mono (HIS.out _) ?_
        rintro e wi ⟨rfl, hwi⟩
        obtain rfl := hwi.symm
        clear hwi
        go_wp2_with first
          | ((with_reducible show wpList _ _ _ ({ dst := _, op := Op.store 5 (Operand.tmp 59) (Operand.tmp 56), type := _, pos := _, after := _, guard := _ } :: _) _ _); refine armS (.tmp 59) (Operand.tmp 56) 5 rfl rfl rfl rfl HS7.out ?_; try simp only [Act.put])
          | ((with_reducible show wpList _ _ _ ({ dst := _, op := Op.load 25 (Operand.tmp 64), type := _, pos := _, after := _, guard := _ } :: _) _ _); refine armL (.tmp 64) 25 rfl rfl rfl HL7.out ?_)
        refine Calls.mono HCL.out ?_
        rintro e w8 ⟨u, rfl, hbu, hb8⟩
        have hr8 := HR7.out.on hb8
        obtain ⟨w9, hst9, hr9, hon9⟩ : ∃ w9, (Instr.storeAt 25 (.pointer (some ⟨R, 43, none⟩)) u).run Tryz.prog w8 = .ok () w9 ∧ RB (fun b => b < w.heap.size) w9 R (zs.drop 40) 40 ((C6.set 40 (.int .u8 K6)).set 41 u) K6 l6 ∧ Only R w8 w9 := ⟨_, st_row hr8.box (j := 43) (by rw [rC_len]; simp; omega) hbu.slc, hr8.put (j := 41) (by simp; omega) u, (Only.refl _ w8).set 43 _⟩
        rw [HFC.out u] at hr9
        have hw7s : w7.heap.size = W0.heap.size := HON7.out.size
        have HL9 : Hid _ := rd_load hr9
        have hz9 : w9.heap[W.heap.size]? = some (.cells zeroV.toArray 36) := (hon9.other _ (by omega)).trans (blk_on ((HON7.out.other _ (by omega)).trans HZ0.out) hb8)
        obtain ⟨wf, hstf, hbxf, honf⟩ := box_store Tryz.sizeOf36 hz9 (by rfl) (vC FF zG (.slice none 0 0) u) vC_len (vC_one rfl hbu.one)
        have HS9 : Hid _ := hst9
        have HSF : Hid _ := hstf
        have HVF : Hid _ := vb_var hbxf
        have hbuf : BS (fun b => W.heap.size ≤ b) wf u (zs.drop 40) := by
          have h9 := hbu.sep (Sep.of_only (O := fun b => b = R) hon9 rfl) (fun b hb e => by omega)
          exact (h9.sep (Sep.of_only (O := fun b => b = W.heap.size) honf rfl) (fun b hb e => by omega)).mono (fun b _ hb => by omega)
        have HBU : Hid (BS (fun b => W.heap.size ≤ b) wf u (zs.drop 40)) := hbuf
        have HBF : Hid (Below w.heap.size w wf) := (((HB0.out.trans (HON7.out.below hlo)).trans (hb8.mono (by omega))).trans (hon9.below hlo)).trans (honf.below (by omega))
        clear hbu hb8 hr8 hst9 hr9 hon9 hz9 hstf hbxf honf hbuf HCL HL7 HR7 HFC HR6
        go_wp2_with first
          | ((with_reducible show wpList _ _ _ ({ dst := _, op := Op.store 25 (Operand.tmp 69) (Operand.tmp 66), type := _, pos := _, after := _, guard := _ } :: _) _ _); refine armS (.tmp 69) (Operand.tmp 66) 25 rfl rfl rfl rfl HS9.out ?_; try simp only [Act.put])
          | ((with_reducible show wpList _ _ _ ({ dst := _, op := Op.load 36 (Operand.tmp 72), type := _, pos := _, after := _, guard := _ } :: _) _ _); refine armL (.tmp 72) 36 rfl rfl rfl HL9.out ?_)
          | ((with_reducible show wpList _ _ _ ({ dst := _, op := Op.store 36 (Operand.tmp 2) (Operand.tmp 73), type := _, pos := _, after := _, guard := _ } :: _) _ _); refine armS (.tmp 2) (Operand.tmp 73) 36 rfl rfl rfl rfl HSF.out ?_; try simp only [Act.put])
        exact bodyPost_ret (res1t rfl rfl HVF.out) rfl ⟨u, rfl, HBU.out, HBF.out⟩
end
end Go.Proofs.YtpgnnplpcalbbaaGreat.V6
