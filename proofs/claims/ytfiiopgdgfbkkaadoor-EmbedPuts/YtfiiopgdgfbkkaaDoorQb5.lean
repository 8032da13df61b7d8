/-
  The document's Prefix4 of a good text.
-/
import Derived.Test.YtfiiopgdgfbkkaaDoorQb3
import Derived.Test.YtfiiopgdgfbkkaaDoorQrg
namespace Go.Proofs.YtfiiopgdgfbkkaaDoor
set_option linter.unusedVariables false
set_option linter.unusedSimpArgs false
open Go Go.RowKit

abbrev zero5V : List Value := [.int .u8 0, .int .u8 0, .int .u8 0, .int .u8 0, .int .i64 0]
def cp4 (l : List Int) (n : Int) : List Value := b8 l ++ [Value.int .i64 n]
theorem cp4_length (l : List Int) (n : Int) (h : l.length = 4) : (cp4 l n).length = 5 := by simp [cp4, b8_length, h]
theorem cp4_one (l : List Int) (n : Int) : ∀ v ∈ cp4 l n, v.oneCell' = true := by
  intro v hv
  rcases List.mem_append.1 hv with hv | hv
  · exact b8_one l v hv
  · simp at hv; subst hv; rfl
abbrev A4L (l : List Int) : Value := .agg (b8 l).toArray
abbrev P4L (l : List Int) (n : Int) : Value := .agg (cp4 l n).toArray
theorem build4L (l : List Int) (n : Int) (hl : l.length = 4) (w : World) : (Instr.build 42 #[(0, A4L l), (1, .int .i64 n)]).run Tryd.prog w = .ok (P4L l n) w := by
  obtain ⟨a0, a1, a2, a3, rfl⟩ := list4 hl
  exact run_build w _ _ _ (by kernel_rfl)
def okP4L (l : List Int) (n : Int) : Bool := decide (0 ≤ n ∧ n ≤ 32) && decide (l = blR n l)
theorem RCheck4_L (l : List Int) (n : Int) (w : World) (hf : FitB l) (hl : l.length = 4) (hb : -9223372036854775808 ≤ n ∧ n ≤ 9223372036854775807) :
    Calls Tryd.prog 40 #[P4L l n] w fun e w' => e = .returned (.int .i64 (if okP4L l n then 0 else 22)) ∧ Below w.heap.size w w' := by
  obtain ⟨a0, a1, a2, a3, rfl⟩ := list4 hl
  have h := RCheck4_calls a0 a1 a2 a3 n w (hf a0 (by simp)) (hf a1 (by simp)) (hf a2 (by simp)) (hf a3 (by simp)) hb
  have e : okP4 a0 a1 a2 a3 n = okP4L [a0, a1, a2, a3] n := by unfold okP4 okP4L; rw [blR4]
  rw [e] at h
  exact h

def Par4R (r : List Int × Int × Int) (w : World) (e : Ending) (w' : World) : Prop := e = .returned (Par4 r) ∧ Below w.heap.size w w'
def Pre4Post (A : List Int) (n : Int) (w : World) (e : Ending) (w' : World) : Prop := e = .returned (.tuple #[P4L A n, .int .i64 0, .int .i64 0]) ∧ Below w.heap.size w w'

/-- What a good prefix's text is. -/
structure Good4 (s : ByteArray) (at_ : Nat) (A : List Int) (n : Int) : Prop where
  slash : slashN (txt s) s.size 0 = at_
  lt : at_ + 1 < s.size
  short : s.size ≤ 100
  parse : ∀ W, Calls Tryd.prog 33 #[.string (s.extract 0 at_)] W fun e w' => Par4R (A, 0, 0) W e w'
  len : lenN (txt (s.extract (at_ + 1) s.size)) 32 (s.extract (at_ + 1) s.size).size 0 = (s.extract (at_ + 1) s.size).size
  sz : (s.extract (at_ + 1) s.size).size ≤ 3
  digits : (txt (s.extract (at_ + 1) s.size)).all digB = true
  num : numF 0 (txt (s.extract (at_ + 1) s.size)) = n
  ok : okP4L A n = true
  a16 : A.length = 4
  fit : FitB A
  n64 : 0 ≤ n ∧ n ≤ 32

set_option maxHeartbeats 1000000 in
set_option maxRecDepth 100000 in
theorem Prefix4_good (s : ByteArray) (at_ : Nat) (A : List Int) (n : Int) (G : Good4 s at_ A n) (w : World) :
    Calls Tryd.prog 38 #[.string s] w fun e w' => Pre4Post A n w e w' := by
  obtain ⟨h1, h2, h3, h4, h5, h5b, h6, h7, h8, h9, h10, h11⟩ := G
  generalize hQ : (fun e w' => Pre4Post A n w e w') = Q
  have HQ : Hid _ := hQ
  clear hQ
  have hsl := fun W => slash_ref s W (by omega)
  rw [h1] at hsl
  have hes : (s.extract (at_ + 1) s.size).size = s.size - (at_ + 1) := by rw [ByteArray.size_extract]; omega
  have hlen := fun W => length_ref (s.extract (at_ + 1) s.size) 32 W (by omega) (by decide)
  rw [h5] at hlen
  have hnum := fun W => number_ref (s.extract (at_ + 1) s.size) W h6 (by omega)
  rw [h7] at hnum
  have hck := fun W => RCheck4_L A n W h10 h9 (by omega)
  rw [h8] at hck
  simp only [if_true] at hck
  have HSL : Hid _ := hsl
  have HLEN : Hid _ := hlen
  have HNUM : Hid (∀ W, Calls Tryd.prog 47 #[.string (s.extract (at_ + 1) s.size)] W fun e w' => ∃ u, e = .returned u ∧ (u = .int .i64 n ∧ w' = W)) := fun W => (hnum W).mono fun e w' h => ⟨_, h.1, rfl, h.2⟩
  have HCK : Hid _ := hck
  have HPA : Hid _ := h4
  clear hsl hlen hnum hck h4 h1 h5 h6 h7 h8
  have hb0 := blk_new w (.cells zero5V.toArray 42)
  have hB0 := (Below.refl w.heap.size w).alloc (Nat.le_refl _) (.cells zero5V.toArray 42)
  have hz0 : (w.alloc (.cells zero5V.toArray 42)).heap.size = w.heap.size + 1 := by simp
  have HZ0 : Hid _ := hz0
  clear hz0
  generalize hr : s.extract (at_ + 1) s.size = r at *
  have HRR : Hid _ := hr
  have q1 : ((at_ : Int) == (s.size : Int)) = false := by simp; omega
  have q2 : (at_ : Int) ≤ (s.size : Int) := by omega
  have q3 : (at_ : Int) + 1 ≤ (s.size : Int) := by omega
  have q4 : ((r.size : Int) == 0) = false := by rw [beq_eq_false_iff_ne]; intro h; omega
  have hrs : r.size ≤ 100 := by omega
  clear hr hes
  go_enter Tryd.func38, Tryd.ntmps38
  go_wp2_with fail
  generalize hW : w.alloc (.cells zero5V.toArray 42) = W0 at *
  clear hW
  refine (HSL.out W0).mono ?_
  rintro e w1 ⟨rfl, rfl⟩
  go_wp2_with fail
  refine (HPA.out _).mono ?_
  rintro e w2 ⟨rfl, hB2⟩
  have hz0 := HZ0.out
  have hb2 := (hB2.block _ (by omega)).trans hb0
  have hBw2 := hB0.trans (hB2.mono (by omega))
  obtain ⟨w3, hst, bx3, hB3⟩ := box_new Tryd.sizeOf27 w2 zero4L rfl (b8 A) (by rw [b8_length, h9]) (b8_one _)
  have hlt2 : w.heap.size < w2.heap.size := Nat.lt_of_lt_of_le (by omega) hB2.size
  have hb3 := (hB3.block _ hlt2).trans hb2
  have hBw3 := hBw2.trans (hB3.mono hBw2.size)
  have HST : Hid _ := hst
  clear hst hz0 HZ0 hb0 hB0 hb2 hBw2 HPA HSL
  unfold Par4
  dsimp only
  go_wp2_with ((with_reducible show wpList _ _ _ _ _ _); refine armS (.tmp 6) (.tmp 18) 27 rfl rfl rfl rfl HST.out ?_)
  rw [HRR.out]
  refine (HLEN.out _).mono ?_
  rintro e w4 ⟨rfl, rfl⟩
  go_wp2_with fail
  obtain ⟨w5, hst5, bx5, hB5⟩ := box_new Tryd.sizeOf42 w4.drew zero5V rfl (cp4 A n) (cp4_length A n h9) (cp4_one A n)
  have HS5 : Hid _ := hst5
  have hb5 := (hB5.block w.heap.size (Nat.lt_of_lt_of_le hlt2 hB3.size)).trans hb3
  have hBw5 : Below w.heap.size w w5 := hBw3.drew.trans (hB5.mono hBw3.size)
  have HLP : Hid _ := agg_load (t := 42) Tryd.isAgg42 Tryd.sizeOf42 (vs := cp4 A n) (cp4_length A n h9) (CellsAt.of_blk bx5)
  have hb6 : w5.heap[w2.heap.size]? = some (.cells (b8 A).toArray 27) := (hB5.block w2.heap.size (Array.getElem?_eq_some_iff.1 bx3).1).trans bx3
  clear hst5
  refine wp_region_held (S := fun W => W.heap[w2.heap.size]? = some (.cells (b8 A).toArray 27)) (by kernel_rfl) ?_
  show wpAnyH _ _ _ _ _ 6 (Array.replicate 6 false) _ _
  refine take_one (i := 0) (d := some 50) (v := (A4L A)) rfl rfl rfl (by kernel_rfl) (by kernel_rfl) (by kernel_rfl) (fun _ _ d _ _ h => by cases d <;> exact h) (fun W hS => ex_loadA (.tmp 6) 27 rfl rfl (agg_load Tryd.isAgg27 Tryd.sizeOf27 (by rw [b8_length, h9]) (CellsAt.of_blk hS))) bx3 ?_
  simp only [Act.put, List.setIfInBounds_toArray, List.set_cons_zero, List.set_cons_succ]
  refine take_one (i := 1) (d := some 51) (v := (.string r)) rfl rfl rfl (by kernel_rfl) (by kernel_rfl) (by kernel_rfl) (fun _ _ d _ _ h => by cases d <;> exact h) (fun W hS => ex_moveA (.tmp 9) rfl rfl) bx3 ?_
  simp only [Act.put, List.setIfInBounds_toArray, List.set_cons_zero, List.set_cons_succ]
  have bx3a : (w4.drew.alloc (.cells zero5V.toArray 42)).heap[w2.heap.size]? = some (.cells (b8 A).toArray 27) := blk_alloc (w := w4.drew) bx3 _
  refine all_two (i1 := 2) (i2 := 4) (by kernel_rfl) rfl rfl rfl rfl ?_ ?_
  · refine wp_call (d := some 52) 47 _ rfl (by kernel_rfl) (HNUM.out _) ?_
    rintro _ _ ⟨rfl, rfl⟩
    refine ⟨bx3, ?_⟩
    simp only [Act.put, List.setIfInBounds_toArray, List.set_cons_zero, List.set_cons_succ]
    refine take_one (i := 3) (d := some 53) (v := (P4L A n)) rfl rfl rfl (by kernel_rfl) (by kernel_rfl) (by kernel_rfl) (fun _ _ d _ _ h => by cases d <;> exact h) (fun W hS => ex_buildA 42 [(0, .tmp 50), (1, .tmp 52)] rfl rfl (build4L A n h9 _)) bx3 ?_
    simp only [Act.put, List.setIfInBounds_toArray, List.set_cons_zero, List.set_cons_succ]
    refine all_one (i := 4) (by kernel_rfl) rfl rfl ?_
    refine wp_allocA (d := some 10) 42 rfl rfl (v := .pointer (some ⟨w4.drew.heap.size, 0, none⟩)) (w2 := w4.drew.alloc (.cells zero5V.toArray 42)) (by simp [execOp, go_sem]) ?_
    refine ⟨bx3a, ?_⟩
    simp only [Act.put, List.setIfInBounds_toArray, List.set_cons_zero, List.set_cons_succ]
    refine all_one (i := 5) (by kernel_rfl) rfl rfl ?_
    refine wp_storeA (.tmp 10) (.tmp 53) 42 rfl rfl rfl rfl HS5.out ?_
    refine ⟨hb6, ?_⟩
    refine wpAnyH_done (by kernel_rfl) ?_ _
    go_wp2_with ((with_reducible show wpList _ _ _ _ _ _); refine armL (.tmp 10) 42 rfl rfl rfl HLP.out ?_)
    refine (HCK.out w5).mono ?_
    rintro e w6 ⟨rfl, hB6⟩
    have hlt5 : w.heap.size < w5.heap.size := (Array.getElem?_eq_some_iff.1 hb5).1
    have hb6R := (hB6.block _ hlt5).trans hb5
    have hBw6 := hBw5.trans (hB6.mono hBw5.size)
    have bx6 := (hB6.block _ (Array.getElem?_eq_some_iff.1 bx5).1).trans bx5
    have HL2 : Hid _ := agg_load (t := 42) Tryd.isAgg42 Tryd.sizeOf42 (vs := cp4 A n) (cp4_length A n h9) (CellsAt.of_blk bx6)
    obtain ⟨wE, hst, bE, honE⟩ := box_store Tryd.sizeOf42 hb6R rfl (cp4 A n) (cp4_length A n h9) (cp4_one A n)
    have HLV : Hid _ := agg_loadVar (t := 42) Tryd.isAgg42 Tryd.sizeOf42 (vs := cp4 A n) (cp4_length A n h9) (CellsAt.of_blk bE)
    have HBE : Hid (Below w.heap.size w wE) := hBw6.trans (honE.below (Nat.le_refl _))
    have HSQ : Hid _ := hst
    clear hst bE honE hb6R hBw6 bx6 hB6 HCK
    go_wp2_with first
      | ((with_reducible show wpList _ _ _ _ _ _); refine armL (.tmp 10) 42 rfl rfl rfl HL2.out ?_)
      | ((with_reducible show wpList _ _ _ _ _ _); refine armS (.tmp 2) (.tmp 59) 42 rfl rfl rfl rfl HSQ.out ?_)
    refine bodyPost_ret (res3c Tryd.results38 rfl HLV.out) rfl ?_
    rw [← HQ.out]
    exact ⟨rfl, HBE.out⟩
  · refine wp_allocA (d := some 10) 42 rfl rfl (v := .pointer (some ⟨w4.drew.heap.size, 0, none⟩)) (w2 := w4.drew.alloc (.cells zero5V.toArray 42)) (by simp [execOp, go_sem]) ?_
    refine ⟨bx3a, ?_⟩
    simp only [Act.put, List.setIfInBounds_toArray, List.set_cons_zero, List.set_cons_succ]
    refine all_one (i := 2) (by kernel_rfl) rfl rfl ?_
    refine wp_call (d := some 52) 47 _ rfl (by kernel_rfl) (HNUM.out _) ?_
    rintro _ _ ⟨rfl, rfl⟩
    refine ⟨bx3a, ?_⟩
    simp only [Act.put, List.setIfInBounds_toArray, List.set_cons_zero, List.set_cons_succ]
    refine take_one (i := 3) (d := some 53) (v := (P4L A n)) rfl rfl rfl (by kernel_rfl) (by kernel_rfl) (by kernel_rfl) (fun _ _ d _ _ h => by cases d <;> exact h) (fun W hS => ex_buildA 42 [(0, .tmp 50), (1, .tmp 52)] rfl rfl (build4L A n h9 _)) bx3a ?_
    simp only [Act.put, List.setIfInBounds_toArray, List.set_cons_zero, List.set_cons_succ]
    refine all_one (i := 5) (by kernel_rfl) rfl rfl ?_
    refine wp_storeA (.tmp 10) (.tmp 53) 42 rfl rfl rfl rfl HS5.out ?_
    refine ⟨hb6, ?_⟩
    refine wpAnyH_done (by kernel_rfl) ?_ _
    go_wp2_with ((with_reducible show wpList _ _ _ _ _ _); refine armL (.tmp 10) 42 rfl rfl rfl HLP.out ?_)
    refine (HCK.out w5).mono ?_
    rintro e w6 ⟨rfl, hB6⟩
    have hlt5 : w.heap.size < w5.heap.size := (Array.getElem?_eq_some_iff.1 hb5).1
    have hb6R := (hB6.block _ hlt5).trans hb5
    have hBw6 := hBw5.trans (hB6.mono hBw5.size)
    have bx6 := (hB6.block _ (Array.getElem?_eq_some_iff.1 bx5).1).trans bx5
    have HL2 : Hid _ := agg_load (t := 42) Tryd.isAgg42 Tryd.sizeOf42 (vs := cp4 A n) (cp4_length A n h9) (CellsAt.of_blk bx6)
    obtain ⟨wE, hst, bE, honE⟩ := box_store Tryd.sizeOf42 hb6R rfl (cp4 A n) (cp4_length A n h9) (cp4_one A n)
    have HLV : Hid _ := agg_loadVar (t := 42) Tryd.isAgg42 Tryd.sizeOf42 (vs := cp4 A n) (cp4_length A n h9) (CellsAt.of_blk bE)
    have HBE : Hid (Below w.heap.size w wE) := hBw6.trans (honE.below (Nat.le_refl _))
    have HSQ : Hid _ := hst
    clear hst bE honE hb6R hBw6 bx6 hB6 HCK
    go_wp2_with first
      | ((with_reducible show wpList _ _ _ _ _ _); refine armL (.tmp 10) 42 rfl rfl rfl HL2.out ?_)
      | ((with_reducible show wpList _ _ _ _ _ _); refine armS (.tmp 2) (.tmp 59) 42 rfl rfl rfl rfl HSQ.out ?_)
    refine bodyPost_ret (res3c Tryd.results38 rfl HLV.out) rfl ?_
    rw [← HQ.out]
    exact ⟨rfl, HBE.out⟩

end Go.Proofs.YtfiiopgdgfbkkaaDoor
