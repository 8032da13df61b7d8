/-
  Package embed: the prefixes that are not global, and the one that is known.
-/
import Derived.Test.YtfiiopgdgfbkkaaDoorQe1
import Derived.Test.YtfiiopgdgfbkkaaDoorAddrHas2
namespace Go.Proofs.YtfiiopgdgfbkkaaDoor
open Go Go.RowKit Go.ChangeShapes Go.WideShapes Go.ChangeAt
set_option linter.unusedVariables false
set_option linter.unusedSimpArgs false

def spc : List (List Int × Int) := [([0, 0, 0, 0], 8), ([10, 0, 0, 0], 8), ([100, 64, 0, 0], 10), ([127, 0, 0, 0], 8), ([169, 254, 0, 0], 16), ([172, 16, 0, 0], 12), ([192, 0, 0, 0], 24), ([192, 0, 2, 0], 24), ([192, 168, 0, 0], 16), ([198, 18, 0, 0], 15), ([198, 51, 100, 0], 24), ([203, 0, 113, 0], 24), ([224, 0, 0, 0], 4), ([240, 0, 0, 0], 4)]
def kSt : List ByteArray := [⟨#[48, 46, 48, 46, 48, 46, 48, 47, 56]⟩, ⟨#[49, 48, 46, 48, 46, 48, 46, 48, 47, 56]⟩, ⟨#[49, 48, 48, 46, 54, 52, 46, 48, 46, 48, 47, 49, 48]⟩, ⟨#[49, 50, 55, 46, 48, 46, 48, 46, 48, 47, 56]⟩, ⟨#[49, 54, 57, 46, 50, 53, 52, 46, 48, 46, 48, 47, 49, 54]⟩, ⟨#[49, 55, 50, 46, 49, 54, 46, 48, 46, 48, 47, 49, 50]⟩, ⟨#[49, 57, 50, 46, 48, 46, 48, 46, 48, 47, 50, 52]⟩, ⟨#[49, 57, 50, 46, 48, 46, 50, 46, 48, 47, 50, 52]⟩, ⟨#[49, 57, 50, 46, 49, 54, 56, 46, 48, 46, 48, 47, 49, 54]⟩, ⟨#[49, 57, 56, 46, 49, 56, 46, 48, 46, 48, 47, 49, 53]⟩, ⟨#[49, 57, 56, 46, 53, 49, 46, 49, 48, 48, 46, 48, 47, 50, 52]⟩, ⟨#[50, 48, 51, 46, 48, 46, 49, 49, 51, 46, 48, 47, 50, 52]⟩, ⟨#[50, 50, 52, 46, 48, 46, 48, 46, 48, 47, 52]⟩, ⟨#[50, 52, 48, 46, 48, 46, 48, 46, 48, 47, 52]⟩]
def spcV : List Value := (spc.map (fun p => cp4 p.1 p.2)).flatten
def globB (a : List Int) : Bool := spc.all (fun p => !has4L p.1 p.2 a)

theorem spc_all : ∀ p ∈ spc, p.1.length = 4 ∧ p.1.all (fun z => decide (0 ≤ z) && decide (z < 256)) = true ∧ okP4L p.1 p.2 = true ∧ 0 ≤ p.2 ∧ p.2 ≤ 32 := by decide +kernel

theorem good4_of (s : ByteArray) (at_ : Nat) (A : List Int) (n : Int) (h1 : slashN (txt s) s.size 0 = at_) (h2 : at_ + 1 < s.size) (h3 : s.size ≤ 100) (hp : rparse4 (txt (s.extract 0 at_)) = (A, 0, 0))
    (h5 : lenN (txt (s.extract (at_ + 1) s.size)) 32 (s.extract (at_ + 1) s.size).size 0 = (s.extract (at_ + 1) s.size).size) (h6 : (s.extract (at_ + 1) s.size).size ≤ 3) (h7 : (txt (s.extract (at_ + 1) s.size)).all digB = true) (h8 : numF 0 (txt (s.extract (at_ + 1) s.size)) = n)
    (h9 : okP4L A n = true) (h10 : A.length = 4) (h11 : A.all (fun z => decide (0 ≤ z) && decide (z < 256)) = true) (h12 : 0 ≤ n ∧ n ≤ 32) : Good4 s at_ A n :=
  ⟨h1, h2, h3, fun W => by
    have h := Parse4_ref (s.extract 0 at_) W (by rw [ByteArray.size_extract]; omega)
    unfold Par4Post at h
    rw [hp] at h
    exact h, h5, h6, h7, h8, h9, h10, fit_of h11, h12⟩

theorem good4_0 (W : World) : Calls Tryd.prog 38 #[.string ⟨#[48, 46, 48, 46, 48, 46, 48, 47, 56]⟩] W fun e w' => Pre4Post [0, 0, 0, 0] 8 W e w' :=
  Prefix4_good _ 7 _ _ (good4_of _ 7 _ _ (by decide +kernel) (by decide) (by decide) (by decide +kernel) (by decide +kernel) (by decide +kernel) (by decide +kernel) (by decide +kernel) (by decide +kernel) rfl (by decide) (by decide)) W
theorem good4_1 (W : World) : Calls Tryd.prog 38 #[.string ⟨#[49, 48, 46, 48, 46, 48, 46, 48, 47, 56]⟩] W fun e w' => Pre4Post [10, 0, 0, 0] 8 W e w' :=
  Prefix4_good _ 8 _ _ (good4_of _ 8 _ _ (by decide +kernel) (by decide) (by decide) (by decide +kernel) (by decide +kernel) (by decide +kernel) (by decide +kernel) (by decide +kernel) (by decide +kernel) rfl (by decide) (by decide)) W
theorem good4_2 (W : World) : Calls Tryd.prog 38 #[.string ⟨#[49, 48, 48, 46, 54, 52, 46, 48, 46, 48, 47, 49, 48]⟩] W fun e w' => Pre4Post [100, 64, 0, 0] 10 W e w' :=
  Prefix4_good _ 10 _ _ (good4_of _ 10 _ _ (by decide +kernel) (by decide) (by decide) (by decide +kernel) (by decide +kernel) (by decide +kernel) (by decide +kernel) (by decide +kernel) (by decide +kernel) rfl (by decide) (by decide)) W
theorem good4_3 (W : World) : Calls Tryd.prog 38 #[.string ⟨#[49, 50, 55, 46, 48, 46, 48, 46, 48, 47, 56]⟩] W fun e w' => Pre4Post [127, 0, 0, 0] 8 W e w' :=
  Prefix4_good _ 9 _ _ (good4_of _ 9 _ _ (by decide +kernel) (by decide) (by decide) (by decide +kernel) (by decide +kernel) (by decide +kernel) (by decide +kernel) (by decide +kernel) (by decide +kernel) rfl (by decide) (by decide)) W
theorem good4_4 (W : World) : Calls Tryd.prog 38 #[.string ⟨#[49, 54, 57, 46, 50, 53, 52, 46, 48, 46, 48, 47, 49, 54]⟩] W fun e w' => Pre4Post [169, 254, 0, 0] 16 W e w' :=
  Prefix4_good _ 11 _ _ (good4_of _ 11 _ _ (by decide +kernel) (by decide) (by decide) (by decide +kernel) (by decide +kernel) (by decide +kernel) (by decide +kernel) (by decide +kernel) (by decide +kernel) rfl (by decide) (by decide)) W
theorem good4_5 (W : World) : Calls Tryd.prog 38 #[.string ⟨#[49, 55, 50, 46, 49, 54, 46, 48, 46, 48, 47, 49, 50]⟩] W fun e w' => Pre4Post [172, 16, 0, 0] 12 W e w' :=
  Prefix4_good _ 10 _ _ (good4_of _ 10 _ _ (by decide +kernel) (by decide) (by decide) (by decide +kernel) (by decide +kernel) (by decide +kernel) (by decide +kernel) (by decide +kernel) (by decide +kernel) rfl (by decide) (by decide)) W
theorem good4_6 (W : World) : Calls Tryd.prog 38 #[.string ⟨#[49, 57, 50, 46, 48, 46, 48, 46, 48, 47, 50, 52]⟩] W fun e w' => Pre4Post [192, 0, 0, 0] 24 W e w' :=
  Prefix4_good _ 9 _ _ (good4_of _ 9 _ _ (by decide +kernel) (by decide) (by decide) (by decide +kernel) (by decide +kernel) (by decide +kernel) (by decide +kernel) (by decide +kernel) (by decide +kernel) rfl (by decide) (by decide)) W
theorem good4_7 (W : World) : Calls Tryd.prog 38 #[.string ⟨#[49, 57, 50, 46, 48, 46, 50, 46, 48, 47, 50, 52]⟩] W fun e w' => Pre4Post [192, 0, 2, 0] 24 W e w' :=
  Prefix4_good _ 9 _ _ (good4_of _ 9 _ _ (by decide +kernel) (by decide) (by decide) (by decide +kernel) (by decide +kernel) (by decide +kernel) (by decide +kernel) (by decide +kernel) (by decide +kernel) rfl (by decide) (by decide)) W
theorem good4_8 (W : World) : Calls Tryd.prog 38 #[.string ⟨#[49, 57, 50, 46, 49, 54, 56, 46, 48, 46, 48, 47, 49, 54]⟩] W fun e w' => Pre4Post [192, 168, 0, 0] 16 W e w' :=
  Prefix4_good _ 11 _ _ (good4_of _ 11 _ _ (by decide +kernel) (by decide) (by decide) (by decide +kernel) (by decide +kernel) (by decide +kernel) (by decide +kernel) (by decide +kernel) (by decide +kernel) rfl (by decide) (by decide)) W
theorem good4_9 (W : World) : Calls Tryd.prog 38 #[.string ⟨#[49, 57, 56, 46, 49, 56, 46, 48, 46, 48, 47, 49, 53]⟩] W fun e w' => Pre4Post [198, 18, 0, 0] 15 W e w' :=
  Prefix4_good _ 10 _ _ (good4_of _ 10 _ _ (by decide +kernel) (by decide) (by decide) (by decide +kernel) (by decide +kernel) (by decide +kernel) (by decide +kernel) (by decide +kernel) (by decide +kernel) rfl (by decide) (by decide)) W
theorem good4_10 (W : World) : Calls Tryd.prog 38 #[.string ⟨#[49, 57, 56, 46, 53, 49, 46, 49, 48, 48, 46, 48, 47, 50, 52]⟩] W fun e w' => Pre4Post [198, 51, 100, 0] 24 W e w' :=
  Prefix4_good _ 12 _ _ (good4_of _ 12 _ _ (by decide +kernel) (by decide) (by decide) (by decide +kernel) (by decide +kernel) (by decide +kernel) (by decide +kernel) (by decide +kernel) (by decide +kernel) rfl (by decide) (by decide)) W
theorem good4_11 (W : World) : Calls Tryd.prog 38 #[.string ⟨#[50, 48, 51, 46, 48, 46, 49, 49, 51, 46, 48, 47, 50, 52]⟩] W fun e w' => Pre4Post [203, 0, 113, 0] 24 W e w' :=
  Prefix4_good _ 11 _ _ (good4_of _ 11 _ _ (by decide +kernel) (by decide) (by decide) (by decide +kernel) (by decide +kernel) (by decide +kernel) (by decide +kernel) (by decide +kernel) (by decide +kernel) rfl (by decide) (by decide)) W
theorem good4_12 (W : World) : Calls Tryd.prog 38 #[.string ⟨#[50, 50, 52, 46, 48, 46, 48, 46, 48, 47, 52]⟩] W fun e w' => Pre4Post [224, 0, 0, 0] 4 W e w' :=
  Prefix4_good _ 9 _ _ (good4_of _ 9 _ _ (by decide +kernel) (by decide) (by decide) (by decide +kernel) (by decide +kernel) (by decide +kernel) (by decide +kernel) (by decide +kernel) (by decide +kernel) rfl (by decide) (by decide)) W
theorem good4_13 (W : World) : Calls Tryd.prog 38 #[.string ⟨#[50, 52, 48, 46, 48, 46, 48, 46, 48, 47, 52]⟩] W fun e w' => Pre4Post [240, 0, 0, 0] 4 W e w' :=
  Prefix4_good _ 9 _ _ (good4_of _ 9 _ _ (by decide +kernel) (by decide) (by decide) (by decide +kernel) (by decide +kernel) (by decide +kernel) (by decide +kernel) (by decide +kernel) (by decide +kernel) rfl (by decide) (by decide)) W

theorem Has4_L (q : List Int) (m : Int) (a : List Int) (w : World) (hq : q.length = 4) (fq : FitB q) (ha : a.length = 4) (fa : FitB a) (hm : -9223372036854775808 ≤ m ∧ m ≤ 9223372036854775807) :
    Calls Tryd.prog 37 #[P4L q m, A4L a] w fun e w' => e = .returned (.tuple #[.bool (okP4L q m && has4L q m a), .int .i64 (if okP4L q m then 0 else 22)]) ∧ Below w.heap.size w w' := by
  obtain ⟨q0, q1, q2, q3, rfl⟩ := list4 hq
  obtain ⟨b0, b1, b2, b3, rfl⟩ := list4 ha
  have h := Has4_calls q0 q1 q2 q3 m b0 b1 b2 b3 w ⟨fq q0 (by simp), fq q1 (by simp), fq q2 (by simp), fq q3 (by simp), hm⟩ (fa b0 (by simp)) (fa b1 (by simp)) (fa b2 (by simp)) (fa b3 (by simp))
  have e : okP4 q0 q1 q2 q3 m = okP4L [q0, q1, q2, q3] m := by unfold okP4 okP4L; rw [blR4]
  have e2 : hasB q0 q1 q2 q3 m b0 b1 b2 b3 = has4L [q0, q1, q2, q3] m [b0, b1, b2, b3] := by unfold hasB has4L; rw [blR4]
  rw [e, e2] at h
  exact h

/-- What each of the fourteen answers, on both sides. -/
theorem spc_has (k : Nat) (p : List Int × Int) (hp : spc[k]? = some p) (a : List Int) (ha : a.length = 4) (fa : FitB a) (w : World) :
    Calls Tryd.prog 37 #[P4L p.1 p.2, A4L a] w (fun e w' => e = .returned (.tuple #[.bool (has4L p.1 p.2 a), .int .i64 0]) ∧ Below w.heap.size w w') ∧
    Calls Tryd.prog 27 #[P4L p.1 p.2, A4L a] w (fun e w' => e = .returned (.tuple #[.bool (has4L p.1 p.2 a), .int .i64 0]) ∧ Below w.heap.size w w') := by
  obtain ⟨h1, h2, h3, h4, h5⟩ := spc_all p (List.mem_of_getElem? hp)
  have e1 := Has4_L p.1 p.2 a w h1 (fit_of h2) ha fa (by omega)
  have e2 := RHas4_L p.1 p.2 a w h1 (fit_of h2) ha fa (by omega)
  rw [h3] at e1 e2
  simp only [Bool.true_and, if_true] at e1 e2
  exact ⟨e1, e2⟩

theorem glob_next {a : List Int} {k : Nat} {p : List Int × Int} (hp : spc[k]? = some p) (h : (spc.take k).all (fun p => !has4L p.1 p.2 a) = true) (hb : has4L p.1 p.2 a = false) : (spc.take (k + 1)).all (fun p => !has4L p.1 p.2 a) = true := by
  obtain ⟨hk, rfl⟩ := List.getElem?_eq_some_iff.1 hp
  rw [List.take_succ_eq_append_getElem hk, List.all_append, h]
  simp [hb]
theorem glob_no {a : List Int} {k : Nat} {p : List Int × Int} (hp : spc[k]? = some p) (hb : has4L p.1 p.2 a = true) : globB a = false := by
  unfold globB
  rw [Bool.eq_false_iff]
  intro h
  rw [List.all_eq_true] at h
  have := h p (List.mem_of_getElem? hp)
  rw [hb] at this
  cases this

set_option maxHeartbeats 4000000 in
set_option maxRecDepth 100000 in
theorem RGlobal_any (a : List Int) (w : World) (ha : a.length = 4) (fa : FitB a) : Calls Tryd.prog 21 #[A4L a] w fun e w' => PutPost (.bool (globB a)) w e w' := by
  generalize hQ : (fun e w' => PutPost (.bool (globB a)) w e w') = Q
  have HQ : Hid _ := hQ
  clear hQ
  have hb0 := blk_alloc (blk_new w (.cells (b8 a).toArray 27)) (.cells (strsV kSt).toArray 9)
  have hb1 := blk_new (w.alloc (.cells (b8 a).toArray 27)) (.cells (strsV kSt).toArray 9)
  have z1 : (w.alloc (.cells (b8 a).toArray 27)).heap.size = w.heap.size + 1 := by simp
  rw [z1] at hb1
  have hBw : Below w.heap.size w ((w.alloc (.cells (b8 a).toArray 27)).alloc (.cells (strsV kSt).toArray 9)) := ((Below.refl _ w).alloc (Nat.le_refl _) _).alloc (by simp) _
  have hz : ((w.alloc (.cells (b8 a).toArray 27)).alloc (.cells (strsV kSt).toArray 9)).heap.size = w.heap.size + 2 := by simp
  have HZ : Hid _ := hz
  clear z1 hz
  go_enter Tryd.func21, Tryd.ntmps21
  go_wp2
  generalize hW : (w.alloc (.cells (b8 a).toArray 27)).alloc (.cells (strsV kSt).toArray 9) = W2 at *
  go_loopw [4] (fun i wr => ∃ k : Nat, k ≤ 14 ∧ i = .int .i64 k ∧ (spc.take k).all (fun p => !has4L p.1 p.2 a) = true ∧ Below W2.heap.size W2 wr) (fun i _ => 14 - (intOf i).toNat)
  case atStart => exact ⟨0, Nat.zero_le _, rfl, rfl, by first | exact Below.refl _ _ | (rw [← hW]; exact Below.refl _ _)⟩
  case round =>
    obtain ⟨k, hk, rfl, hall, hB⟩ := hrel
    have hz := HZ.out
    have HALL : Hid _ := hall
    clear hall
    by_cases hlt : k < 14
    · have hbs := (hB.block (w.heap.size + 1) (by omega)).trans hb1
      have hba := (hB.block w.heap.size (by omega)).trans hb0
      have hsz := hB.size
      have hkk : k = 0 ∨ k = 1 ∨ k = 2 ∨ k = 3 ∨ k = 4 ∨ k = 5 ∨ k = 6 ∨ k = 7 ∨ k = 8 ∨ k = 9 ∨ k = 10 ∨ k = 11 ∨ k = 12 ∨ k = 13 := by omega
      rcases hkk with rfl | rfl | rfl | rfl | rfl | rfl | rfl | rfl | rfl | rfl | rfl | rfl | rfl | rfl
      · have cs := blk_cell hbs (j := 0) rfl
        have hG := good4_0 wr
        have hS := fun W => (spc_has 0 ([0, 0, 0, 0], 8) rfl a ha fa W).2
        have hN := glob_next (a := a) (k := 0) (p := ([0, 0, 0, 0], 8)) rfl HALL.out
        have hO := glob_no (a := a) (k := 0) (p := ([0, 0, 0, 0], 8)) rfl
        have HG : Hid _ := hG
        have HS : Hid _ := hS
        have HN : Hid _ := hN
        have HO : Hid _ := hO
        clear hG hS hN hO hbs
        generalize hbb : has4L ([0, 0, 0, 0], (8 : Int)).1 ([0, 0, 0, 0], (8 : Int)).2 a = bb at *
        clear hbb
        go_wp2_with fail
        refine Calls.mono HG.out ?_
        rintro e w3 ⟨rfl, hB3⟩
        obtain ⟨w4, hst4, b4, hB4⟩ := box_new Tryd.sizeOf42 w3 zero5V rfl (cp4 [0, 0, 0, 0] 8) rfl (cp4_one _ _)
        have HS4 : Hid _ := hst4
        have hB14 := hB3.trans (hB4.mono hB3.size)
        have L5 : Hid _ := agg_load (t := 42) Tryd.isAgg42 Tryd.sizeOf42 (vs := cp4 [0, 0, 0, 0] 8) rfl (CellsAt.of_blk b4)
        have L1 : Hid _ := agg_load (t := 27) Tryd.isAgg27 Tryd.sizeOf27 (vs := b8 a) (by rw [b8_length, ha]) (CellsAt.of_blk ((hB14.block w.heap.size (by omega)).trans hba))
        have hB2 : Below W2.heap.size W2 w4 := hB.trans (hB14.mono hB.size)
        clear hst4 HG b4 hB3 hB4 hB14
        go_wp2_with first
          | ((with_reducible show wpList _ _ _ _ _ _); refine armS (.tmp 5) (.tmp 23) 42 rfl rfl rfl rfl HS4.out ?_)
          | ((with_reducible show wpList _ _ _ _ _ _); refine armL (.tmp 5) 42 rfl rfl rfl L5.out ?_)
          | ((with_reducible show wpList _ _ _ _ _ _); refine armL (.tmp 1) 27 rfl rfl rfl L1.out ?_)
        refine (HS.out w4).mono ?_
        rintro e w5 ⟨rfl, hB5⟩
        have hB6 : Below W2.heap.size W2 w5 := hB2.trans (hB5.mono hB2.size)
        cases bb
        · go_wp2
          exact ⟨⟨1, by decide, by simp, HN.out (by first | rfl | trivial), hB6⟩, by simp [intOf]⟩
        · have hg : globB a = false := HO.out (by first | rfl | trivial)
          rw [hg] at HQ
          have HBE : Hid (Below w.heap.size w w5) := hBw.trans (hB6.mono (by omega))
          go_wp2
          rw [← HQ.out]
          exact ⟨rfl, HBE.out⟩
      · have cs := blk_cell hbs (j := 1) rfl
        have hG := good4_1 wr
        have hS := fun W => (spc_has 1 ([10, 0, 0, 0], 8) rfl a ha fa W).2
        have hN := glob_next (a := a) (k := 1) (p := ([10, 0, 0, 0], 8)) rfl HALL.out
        have hO := glob_no (a := a) (k := 1) (p := ([10, 0, 0, 0], 8)) rfl
        have HG : Hid _ := hG
        have HS : Hid _ := hS
        have HN : Hid _ := hN
        have HO : Hid _ := hO
        clear hG hS hN hO hbs
        generalize hbb : has4L ([10, 0, 0, 0], (8 : Int)).1 ([10, 0, 0, 0], (8 : Int)).2 a = bb at *
        clear hbb
        go_wp2_with fail
        refine Calls.mono HG.out ?_
        rintro e w3 ⟨rfl, hB3⟩
        obtain ⟨w4, hst4, b4, hB4⟩ := box_new Tryd.sizeOf42 w3 zero5V rfl (cp4 [10, 0, 0, 0] 8) rfl (cp4_one _ _)
        have HS4 : Hid _ := hst4
        have hB14 := hB3.trans (hB4.mono hB3.size)
        have L5 : Hid _ := agg_load (t := 42) Tryd.isAgg42 Tryd.sizeOf42 (vs := cp4 [10, 0, 0, 0] 8) rfl (CellsAt.of_blk b4)
        have L1 : Hid _ := agg_load (t := 27) Tryd.isAgg27 Tryd.sizeOf27 (vs := b8 a) (by rw [b8_length, ha]) (CellsAt.of_blk ((hB14.block w.heap.size (by omega)).trans hba))
        have hB2 : Below W2.heap.size W2 w4 := hB.trans (hB14.mono hB.size)
        clear hst4 HG b4 hB3 hB4 hB14
        go_wp2_with first
          | ((with_reducible show wpList _ _ _ _ _ _); refine armS (.tmp 5) (.tmp 23) 42 rfl rfl rfl rfl HS4.out ?_)
          | ((with_reducible show wpList _ _ _ _ _ _); refine armL (.tmp 5) 42 rfl rfl rfl L5.out ?_)
          | ((with_reducible show wpList _ _ _ _ _ _); refine armL (.tmp 1) 27 rfl rfl rfl L1.out ?_)
        refine (HS.out w4).mono ?_
        rintro e w5 ⟨rfl, hB5⟩
        have hB6 : Below W2.heap.size W2 w5 := hB2.trans (hB5.mono hB2.size)
        cases bb
        · go_wp2
          exact ⟨⟨2, by decide, by simp, HN.out (by first | rfl | trivial), hB6⟩, by simp [intOf]⟩
        · have hg : globB a = false := HO.out (by first | rfl | trivial)
          rw [hg] at HQ
          have HBE : Hid (Below w.heap.size w w5) := hBw.trans (hB6.mono (by omega))
          go_wp2
          rw [← HQ.out]
          exact ⟨rfl, HBE.out⟩
      · have cs := blk_cell hbs (j := 2) rfl
        have hG := good4_2 wr
        have hS := fun W => (spc_has 2 ([100, 64, 0, 0], 10) rfl a ha fa W).2
        have hN := glob_next (a := a) (k := 2) (p := ([100, 64, 0, 0], 10)) rfl HALL.out
        have hO := glob_no (a := a) (k := 2) (p := ([100, 64, 0, 0], 10)) rfl
        have HG : Hid _ := hG
        have HS : Hid _ := hS
        have HN : Hid _ := hN
        have HO : Hid _ := hO
        clear hG hS hN hO hbs
        generalize hbb : has4L ([100, 64, 0, 0], (10 : Int)).1 ([100, 64, 0, 0], (10 : Int)).2 a = bb at *
        clear hbb
        go_wp2_with fail
        refine Calls.mono HG.out ?_
        rintro e w3 ⟨rfl, hB3⟩
        obtain ⟨w4, hst4, b4, hB4⟩ := box_new Tryd.sizeOf42 w3 zero5V rfl (cp4 [100, 64, 0, 0] 10) rfl (cp4_one _ _)
        have HS4 : Hid _ := hst4
        have hB14 := hB3.trans (hB4.mono hB3.size)
        have L5 : Hid _ := agg_load (t := 42) Tryd.isAgg42 Tryd.sizeOf42 (vs := cp4 [100, 64, 0, 0] 10) rfl (CellsAt.of_blk b4)
        have L1 : Hid _ := agg_load (t := 27) Tryd.isAgg27 Tryd.sizeOf27 (vs := b8 a) (by rw [b8_length, ha]) (CellsAt.of_blk ((hB14.block w.heap.size (by omega)).trans hba))
        have hB2 : Below W2.heap.size W2 w4 := hB.trans (hB14.mono hB.size)
        clear hst4 HG b4 hB3 hB4 hB14
        go_wp2_with first
          | ((with_reducible show wpList _ _ _ _ _ _); refine armS (.tmp 5) (.tmp 23) 42 rfl rfl rfl rfl HS4.out ?_)
          | ((with_reducible show wpList _ _ _ _ _ _); refine armL (.tmp 5) 42 rfl rfl rfl L5.out ?_)
          | ((with_reducible show wpList _ _ _ _ _ _); refine armL (.tmp 1) 27 rfl rfl rfl L1.out ?_)
        refine (HS.out w4).mono ?_
        rintro e w5 ⟨rfl, hB5⟩
        have hB6 : Below W2.heap.size W2 w5 := hB2.trans (hB5.mono hB2.size)
        cases bb
        · go_wp2
          exact ⟨⟨3, by decide, by simp, HN.out (by first | rfl | trivial), hB6⟩, by simp [intOf]⟩
        · have hg : globB a = false := HO.out (by first | rfl | trivial)
          rw [hg] at HQ
          have HBE : Hid (Below w.heap.size w w5) := hBw.trans (hB6.mono (by omega))
          go_wp2
          rw [← HQ.out]
          exact ⟨rfl, HBE.out⟩
      · have cs := blk_cell hbs (j := 3) rfl
        have hG := good4_3 wr
        have hS := fun W => (spc_has 3 ([127, 0, 0, 0], 8) rfl a ha fa W).2
        have hN := glob_next (a := a) (k := 3) (p := ([127, 0, 0, 0], 8)) rfl HALL.out
        have hO := glob_no (a := a) (k := 3) (p := ([127, 0, 0, 0], 8)) rfl
        have HG : Hid _ := hG
        have HS : Hid _ := hS
        have HN : Hid _ := hN
        have HO : Hid _ := hO
        clear hG hS hN hO hbs
        generalize hbb : has4L ([127, 0, 0, 0], (8 : Int)).1 ([127, 0, 0, 0], (8 : Int)).2 a = bb at *
        clear hbb
        go_wp2_with fail
        refine Calls.mono HG.out ?_
        rintro e w3 ⟨rfl, hB3⟩
        obtain ⟨w4, hst4, b4, hB4⟩ := box_new Tryd.sizeOf42 w3 zero5V rfl (cp4 [127, 0, 0, 0] 8) rfl (cp4_one _ _)
        have HS4 : Hid _ := hst4
        have hB14 := hB3.trans (hB4.mono hB3.size)
        have L5 : Hid _ := agg_load (t := 42) Tryd.isAgg42 Tryd.sizeOf42 (vs := cp4 [127, 0, 0, 0] 8) rfl (CellsAt.of_blk b4)
        have L1 : Hid _ := agg_load (t := 27) Tryd.isAgg27 Tryd.sizeOf27 (vs := b8 a) (by rw [b8_length, ha]) (CellsAt.of_blk ((hB14.block w.heap.size (by omega)).trans hba))
        have hB2 : Below W2.heap.size W2 w4 := hB.trans (hB14.mono hB.size)
        clear hst4 HG b4 hB3 hB4 hB14
        go_wp2_with first
          | ((with_reducible show wpList _ _ _ _ _ _); refine armS (.tmp 5) (.tmp 23) 42 rfl rfl rfl rfl HS4.out ?_)
          | ((with_reducible show wpList _ _ _ _ _ _); refine armL (.tmp 5) 42 rfl rfl rfl L5.out ?_)
          | ((with_reducible show wpList _ _ _ _ _ _); refine armL (.tmp 1) 27 rfl rfl rfl L1.out ?_)
        refine (HS.out w4).mono ?_
        rintro e w5 ⟨rfl, hB5⟩
        have hB6 : Below W2.heap.size W2 w5 := hB2.trans (hB5.mono hB2.size)
        cases bb
        · go_wp2
          exact ⟨⟨4, by decide, by simp, HN.out (by first | rfl | trivial), hB6⟩, by simp [intOf]⟩
        · have hg : globB a = false := HO.out (by first | rfl | trivial)
          rw [hg] at HQ
          have HBE : Hid (Below w.heap.size w w5) := hBw.trans (hB6.mono (by omega))
          go_wp2
          rw [← HQ.out]
          exact ⟨rfl, HBE.out⟩
      · have cs := blk_cell hbs (j := 4) rfl
        have hG := good4_4 wr
        have hS := fun W => (spc_has 4 ([169, 254, 0, 0], 16) rfl a ha fa W).2
        have hN := glob_next (a := a) (k := 4) (p := ([169, 254, 0, 0], 16)) rfl HALL.out
        have hO := glob_no (a := a) (k := 4) (p := ([169, 254, 0, 0], 16)) rfl
        have HG : Hid _ := hG
        have HS : Hid _ := hS
        have HN : Hid _ := hN
        have HO : Hid _ := hO
        clear hG hS hN hO hbs
        generalize hbb : has4L ([169, 254, 0, 0], (16 : Int)).1 ([169, 254, 0, 0], (16 : Int)).2 a = bb at *
        clear hbb
        go_wp2_with fail
        refine Calls.mono HG.out ?_
        rintro e w3 ⟨rfl, hB3⟩
        obtain ⟨w4, hst4, b4, hB4⟩ := box_new Tryd.sizeOf42 w3 zero5V rfl (cp4 [169, 254, 0, 0] 16) rfl (cp4_one _ _)
        have HS4 : Hid _ := hst4
        have hB14 := hB3.trans (hB4.mono hB3.size)
        have L5 : Hid _ := agg_load (t := 42) Tryd.isAgg42 Tryd.sizeOf42 (vs := cp4 [169, 254, 0, 0] 16) rfl (CellsAt.of_blk b4)
        have L1 : Hid _ := agg_load (t := 27) Tryd.isAgg27 Tryd.sizeOf27 (vs := b8 a) (by rw [b8_length, ha]) (CellsAt.of_blk ((hB14.block w.heap.size (by omega)).trans hba))
        have hB2 : Below W2.heap.size W2 w4 := hB.trans (hB14.mono hB.size)
        clear hst4 HG b4 hB3 hB4 hB14
        go_wp2_with first
          | ((with_reducible show wpList _ _ _ _ _ _); refine armS (.tmp 5) (.tmp 23) 42 rfl rfl rfl rfl HS4.out ?_)
          | ((with_reducible show wpList _ _ _ _ _ _); refine armL (.tmp 5) 42 rfl rfl rfl L5.out ?_)
          | ((with_reducible show wpList _ _ _ _ _ _); refine armL (.tmp 1) 27 rfl rfl rfl L1.out ?_)
        refine (HS.out w4).mono ?_
        rintro e w5 ⟨rfl, hB5⟩
        have hB6 : Below W2.heap.size W2 w5 := hB2.trans (hB5.mono hB2.size)
        cases bb
        · go_wp2
          exact ⟨⟨5, by decide, by simp, HN.out (by first | rfl | trivial), hB6⟩, by simp [intOf]⟩
        · have hg : globB a = false := HO.out (by first | rfl | trivial)
          rw [hg] at HQ
          have HBE : Hid (Below w.heap.size w w5) := hBw.trans (hB6.mono (by omega))
          go_wp2
          rw [← HQ.out]
          exact ⟨rfl, HBE.out⟩
      · have cs := blk_cell hbs (j := 5) rfl
        have hG := good4_5 wr
        have hS := fun W => (spc_has 5 ([172, 16, 0, 0], 12) rfl a ha fa W).2
        have hN := glob_next (a := a) (k := 5) (p := ([172, 16, 0, 0], 12)) rfl HALL.out
        have hO := glob_no (a := a) (k := 5) (p := ([172, 16, 0, 0], 12)) rfl
        have HG : Hid _ := hG
        have HS : Hid _ := hS
        have HN : Hid _ := hN
        have HO : Hid _ := hO
        clear hG hS hN hO hbs
        generalize hbb : has4L ([172, 16, 0, 0], (12 : Int)).1 ([172, 16, 0, 0], (12 : Int)).2 a = bb at *
        clear hbb
        go_wp2_with fail
        refine Calls.mono HG.out ?_
        rintro e w3 ⟨rfl, hB3⟩
        obtain ⟨w4, hst4, b4, hB4⟩ := box_new Tryd.sizeOf42 w3 zero5V rfl (cp4 [172, 16, 0, 0] 12) rfl (cp4_one _ _)
        have HS4 : Hid _ := hst4
        have hB14 := hB3.trans (hB4.mono hB3.size)
        have L5 : Hid _ := agg_load (t := 42) Tryd.isAgg42 Tryd.sizeOf42 (vs := cp4 [172, 16, 0, 0] 12) rfl (CellsAt.of_blk b4)
        have L1 : Hid _ := agg_load (t := 27) Tryd.isAgg27 Tryd.sizeOf27 (vs := b8 a) (by rw [b8_length, ha]) (CellsAt.of_blk ((hB14.block w.heap.size (by omega)).trans hba))
        have hB2 : Below W2.heap.size W2 w4 := hB.trans (hB14.mono hB.size)
        clear hst4 HG b4 hB3 hB4 hB14
        go_wp2_with first
          | ((with_reducible show wpList _ _ _ _ _ _); refine armS (.tmp 5) (.tmp 23) 42 rfl rfl rfl rfl HS4.out ?_)
          | ((with_reducible show wpList _ _ _ _ _ _); refine armL (.tmp 5) 42 rfl rfl rfl L5.out ?_)
          | ((with_reducible show wpList _ _ _ _ _ _); refine armL (.tmp 1) 27 rfl rfl rfl L1.out ?_)
        refine (HS.out w4).mono ?_
        rintro e w5 ⟨rfl, hB5⟩
        have hB6 : Below W2.heap.size W2 w5 := hB2.trans (hB5.mono hB2.size)
        cases bb
        · go_wp2
          exact ⟨⟨6, by decide, by simp, HN.out (by first | rfl | trivial), hB6⟩, by simp [intOf]⟩
        · have hg : globB a = false := HO.out (by first | rfl | trivial)
          rw [hg] at HQ
          have HBE : Hid (Below w.heap.size w w5) := hBw.trans (hB6.mono (by omega))
          go_wp2
          rw [← HQ.out]
          exact ⟨rfl, HBE.out⟩
      · have cs := blk_cell hbs (j := 6) rfl
        have hG := good4_6 wr
        have hS := fun W => (spc_has 6 ([192, 0, 0, 0], 24) rfl a ha fa W).2
        have hN := glob_next (a := a) (k := 6) (p := ([192, 0, 0, 0], 24)) rfl HALL.out
        have hO := glob_no (a := a) (k := 6) (p := ([192, 0, 0, 0], 24)) rfl
        have HG : Hid _ := hG
        have HS : Hid _ := hS
        have HN : Hid _ := hN
        have HO : Hid _ := hO
        clear hG hS hN hO hbs
        generalize hbb : has4L ([192, 0, 0, 0], (24 : Int)).1 ([192, 0, 0, 0], (24 : Int)).2 a = bb at *
        clear hbb
        go_wp2_with fail
        refine Calls.mono HG.out ?_
        rintro e w3 ⟨rfl, hB3⟩
        obtain ⟨w4, hst4, b4, hB4⟩ := box_new Tryd.sizeOf42 w3 zero5V rfl (cp4 [192, 0, 0, 0] 24) rfl (cp4_one _ _)
        have HS4 : Hid _ := hst4
        have hB14 := hB3.trans (hB4.mono hB3.size)
        have L5 : Hid _ := agg_load (t := 42) Tryd.isAgg42 Tryd.sizeOf42 (vs := cp4 [192, 0, 0, 0] 24) rfl (CellsAt.of_blk b4)
        have L1 : Hid _ := agg_load (t := 27) Tryd.isAgg27 Tryd.sizeOf27 (vs := b8 a) (by rw [b8_length, ha]) (CellsAt.of_blk ((hB14.block w.heap.size (by omega)).trans hba))
        have hB2 : Below W2.heap.size W2 w4 := hB.trans (hB14.mono hB.size)
        clear hst4 HG b4 hB3 hB4 hB14
        go_wp2_with first
          | ((with_reducible show wpList _ _ _ _ _ _); refine armS (.tmp 5) (.tmp 23) 42 rfl rfl rfl rfl HS4.out ?_)
          | ((with_reducible show wpList _ _ _ _ _ _); refine armL (.tmp 5) 42 rfl rfl rfl L5.out ?_)
          | ((with_reducible show wpList _ _ _ _ _ _); refine armL (.tmp 1) 27 rfl rfl rfl L1.out ?_)
        refine (HS.out w4).mono ?_
        rintro e w5 ⟨rfl, hB5⟩
        have hB6 : Below W2.heap.size W2 w5 := hB2.trans (hB5.mono hB2.size)
        cases bb
        · go_wp2
          exact ⟨⟨7, by decide, by simp, HN.out (by first | rfl | trivial), hB6⟩, by simp [intOf]⟩
        · have hg : globB a = false := HO.out (by first | rfl | trivial)
          rw [hg] at HQ
          have HBE : Hid (Below w.heap.size w w5) := hBw.trans (hB6.mono (by omega))
          go_wp2
          rw [← HQ.out]
          exact ⟨rfl, HBE.out⟩
      · have cs := blk_cell hbs (j := 7) rfl
        have hG := good4_7 wr
        have hS := fun W => (spc_has 7 ([192, 0, 2, 0], 24) rfl a ha fa W).2
        have hN := glob_next (a := a) (k := 7) (p := ([192, 0, 2, 0], 24)) rfl HALL.out
        have hO := glob_no (a := a) (k := 7) (p := ([192, 0, 2, 0], 24)) rfl
        have HG : Hid _ := hG
        have HS : Hid _ := hS
        have HN : Hid _ := hN
        have HO : Hid _ := hO
        clear hG hS hN hO hbs
        generalize hbb : has4L ([192, 0, 2, 0], (24 : Int)).1 ([192, 0, 2, 0], (24 : Int)).2 a = bb at *
        clear hbb
        go_wp2_with fail
        refine Calls.mono HG.out ?_
        rintro e w3 ⟨rfl, hB3⟩
        obtain ⟨w4, hst4, b4, hB4⟩ := box_new Tryd.sizeOf42 w3 zero5V rfl (cp4 [192, 0, 2, 0] 24) rfl (cp4_one _ _)
        have HS4 : Hid _ := hst4
        have hB14 := hB3.trans (hB4.mono hB3.size)
        have L5 : Hid _ := agg_load (t := 42) Tryd.isAgg42 Tryd.sizeOf42 (vs := cp4 [192, 0, 2, 0] 24) rfl (CellsAt.of_blk b4)
        have L1 : Hid _ := agg_load (t := 27) Tryd.isAgg27 Tryd.sizeOf27 (vs := b8 a) (by rw [b8_length, ha]) (CellsAt.of_blk ((hB14.block w.heap.size (by omega)).trans hba))
        have hB2 : Below W2.heap.size W2 w4 := hB.trans (hB14.mono hB.size)
        clear hst4 HG b4 hB3 hB4 hB14
        go_wp2_with first
          | ((with_reducible show wpList _ _ _ _ _ _); refine armS (.tmp 5) (.tmp 23) 42 rfl rfl rfl rfl HS4.out ?_)
          | ((with_reducible show wpList _ _ _ _ _ _); refine armL (.tmp 5) 42 rfl rfl rfl L5.out ?_)
          | ((with_reducible show wpList _ _ _ _ _ _); refine armL (.tmp 1) 27 rfl rfl rfl L1.out ?_)
        refine (HS.out w4).mono ?_
        rintro e w5 ⟨rfl, hB5⟩
        have hB6 : Below W2.heap.size W2 w5 := hB2.trans (hB5.mono hB2.size)
        cases bb
        · go_wp2
          exact ⟨⟨8, by decide, by simp, HN.out (by first | rfl | trivial), hB6⟩, by simp [intOf]⟩
        · have hg : globB a = false := HO.out (by first | rfl | trivial)
          rw [hg] at HQ
          have HBE : Hid (Below w.heap.size w w5) := hBw.trans (hB6.mono (by omega))
          go_wp2
          rw [← HQ.out]
          exact ⟨rfl, HBE.out⟩
      · have cs := blk_cell hbs (j := 8) rfl
        have hG := good4_8 wr
        have hS := fun W => (spc_has 8 ([192, 168, 0, 0], 16) rfl a ha fa W).2
        have hN := glob_next (a := a) (k := 8) (p := ([192, 168, 0, 0], 16)) rfl HALL.out
        have hO := glob_no (a := a) (k := 8) (p := ([192, 168, 0, 0], 16)) rfl
        have HG : Hid _ := hG
        have HS : Hid _ := hS
        have HN : Hid _ := hN
        have HO : Hid _ := hO
        clear hG hS hN hO hbs
        generalize hbb : has4L ([192, 168, 0, 0], (16 : Int)).1 ([192, 168, 0, 0], (16 : Int)).2 a = bb at *
        clear hbb
        go_wp2_with fail
        refine Calls.mono HG.out ?_
        rintro e w3 ⟨rfl, hB3⟩
        obtain ⟨w4, hst4, b4, hB4⟩ := box_new Tryd.sizeOf42 w3 zero5V rfl (cp4 [192, 168, 0, 0] 16) rfl (cp4_one _ _)
        have HS4 : Hid _ := hst4
        have hB14 := hB3.trans (hB4.mono hB3.size)
        have L5 : Hid _ := agg_load (t := 42) Tryd.isAgg42 Tryd.sizeOf42 (vs := cp4 [192, 168, 0, 0] 16) rfl (CellsAt.of_blk b4)
        have L1 : Hid _ := agg_load (t := 27) Tryd.isAgg27 Tryd.sizeOf27 (vs := b8 a) (by rw [b8_length, ha]) (CellsAt.of_blk ((hB14.block w.heap.size (by omega)).trans hba))
        have hB2 : Below W2.heap.size W2 w4 := hB.trans (hB14.mono hB.size)
        clear hst4 HG b4 hB3 hB4 hB14
        go_wp2_with first
          | ((with_reducible show wpList _ _ _ _ _ _); refine armS (.tmp 5) (.tmp 23) 42 rfl rfl rfl rfl HS4.out ?_)
          | ((with_reducible show wpList _ _ _ _ _ _); refine armL (.tmp 5) 42 rfl rfl rfl L5.out ?_)
          | ((with_reducible show wpList _ _ _ _ _ _); refine armL (.tmp 1) 27 rfl rfl rfl L1.out ?_)
        refine (HS.out w4).mono ?_
        rintro e w5 ⟨rfl, hB5⟩
        have hB6 : Below W2.heap.size W2 w5 := hB2.trans (hB5.mono hB2.size)
        cases bb
        · go_wp2
          exact ⟨⟨9, by decide, by simp, HN.out (by first | rfl | trivial), hB6⟩, by simp [intOf]⟩
        · have hg : globB a = false := HO.out (by first | rfl | trivial)
          rw [hg] at HQ
          have HBE : Hid (Below w.heap.size w w5) := hBw.trans (hB6.mono (by omega))
          go_wp2
          rw [← HQ.out]
          exact ⟨rfl, HBE.out⟩
      · have cs := blk_cell hbs (j := 9) rfl
        have hG := good4_9 wr
        have hS := fun W => (spc_has 9 ([198, 18, 0, 0], 15) rfl a ha fa W).2
        have hN := glob_next (a := a) (k := 9) (p := ([198, 18, 0, 0], 15)) rfl HALL.out
        have hO := glob_no (a := a) (k := 9) (p := ([198, 18, 0, 0], 15)) rfl
        have HG : Hid _ := hG
        have HS : Hid _ := hS
        have HN : Hid _ := hN
        have HO : Hid _ := hO
        clear hG hS hN hO hbs
        generalize hbb : has4L ([198, 18, 0, 0], (15 : Int)).1 ([198, 18, 0, 0], (15 : Int)).2 a = bb at *
        clear hbb
        go_wp2_with fail
        refine Calls.mono HG.out ?_
        rintro e w3 ⟨rfl, hB3⟩
        obtain ⟨w4, hst4, b4, hB4⟩ := box_new Tryd.sizeOf42 w3 zero5V rfl (cp4 [198, 18, 0, 0] 15) rfl (cp4_one _ _)
        have HS4 : Hid _ := hst4
        have hB14 := hB3.trans (hB4.mono hB3.size)
        have L5 : Hid _ := agg_load (t := 42) Tryd.isAgg42 Tryd.sizeOf42 (vs := cp4 [198, 18, 0, 0] 15) rfl (CellsAt.of_blk b4)
        have L1 : Hid _ := agg_load (t := 27) Tryd.isAgg27 Tryd.sizeOf27 (vs := b8 a) (by rw [b8_length, ha]) (CellsAt.of_blk ((hB14.block w.heap.size (by omega)).trans hba))
        have hB2 : Below W2.heap.size W2 w4 := hB.trans (hB14.mono hB.size)
        clear hst4 HG b4 hB3 hB4 hB14
        go_wp2_with first
          | ((with_reducible show wpList _ _ _ _ _ _); refine armS (.tmp 5) (.tmp 23) 42 rfl rfl rfl rfl HS4.out ?_)
          | ((with_reducible show wpList _ _ _ _ _ _); refine armL (.tmp 5) 42 rfl rfl rfl L5.out ?_)
          | ((with_reducible show wpList _ _ _ _ _ _); refine armL (.tmp 1) 27 rfl rfl rfl L1.out ?_)
        refine (HS.out w4).mono ?_
        rintro e w5 ⟨rfl, hB5⟩
        have hB6 : Below W2.heap.size W2 w5 := hB2.trans (hB5.mono hB2.size)
        cases bb
        · go_wp2
          exact ⟨⟨10, by decide, by simp, HN.out (by first | rfl | trivial), hB6⟩, by simp [intOf]⟩
        · have hg : globB a = false := HO.out (by first | rfl | trivial)
          rw [hg] at HQ
          have HBE : Hid (Below w.heap.size w w5) := hBw.trans (hB6.mono (by omega))
          go_wp2
          rw [← HQ.out]
          exact ⟨rfl, HBE.out⟩
      · have cs := blk_cell hbs (j := 10) rfl
        have hG := good4_10 wr
        have hS := fun W => (spc_has 10 ([198, 51, 100, 0], 24) rfl a ha fa W).2
        have hN := glob_next (a := a) (k := 10) (p := ([198, 51, 100, 0], 24)) rfl HALL.out
        have hO := glob_no (a := a) (k := 10) (p := ([198, 51, 100, 0], 24)) rfl
        have HG : Hid _ := hG
        have HS : Hid _ := hS
        have HN : Hid _ := hN
        have HO : Hid _ := hO
        clear hG hS hN hO hbs
        generalize hbb : has4L ([198, 51, 100, 0], (24 : Int)).1 ([198, 51, 100, 0], (24 : Int)).2 a = bb at *
        clear hbb
        go_wp2_with fail
        refine Calls.mono HG.out ?_
        rintro e w3 ⟨rfl, hB3⟩
        obtain ⟨w4, hst4, b4, hB4⟩ := box_new Tryd.sizeOf42 w3 zero5V rfl (cp4 [198, 51, 100, 0] 24) rfl (cp4_one _ _)
        have HS4 : Hid _ := hst4
        have hB14 := hB3.trans (hB4.mono hB3.size)
        have L5 : Hid _ := agg_load (t := 42) Tryd.isAgg42 Tryd.sizeOf42 (vs := cp4 [198, 51, 100, 0] 24) rfl (CellsAt.of_blk b4)
        have L1 : Hid _ := agg_load (t := 27) Tryd.isAgg27 Tryd.sizeOf27 (vs := b8 a) (by rw [b8_length, ha]) (CellsAt.of_blk ((hB14.block w.heap.size (by omega)).trans hba))
        have hB2 : Below W2.heap.size W2 w4 := hB.trans (hB14.mono hB.size)
        clear hst4 HG b4 hB3 hB4 hB14
        go_wp2_with first
          | ((with_reducible show wpList _ _ _ _ _ _); refine armS (.tmp 5) (.tmp 23) 42 rfl rfl rfl rfl HS4.out ?_)
          | ((with_reducible show wpList _ _ _ _ _ _); refine armL (.tmp 5) 42 rfl rfl rfl L5.out ?_)
          | ((with_reducible show wpList _ _ _ _ _ _); refine armL (.tmp 1) 27 rfl rfl rfl L1.out ?_)
        refine (HS.out w4).mono ?_
        rintro e w5 ⟨rfl, hB5⟩
        have hB6 : Below W2.heap.size W2 w5 := hB2.trans (hB5.mono hB2.size)
        cases bb
        · go_wp2
          exact ⟨⟨11, by decide, by simp, HN.out (by first | rfl | trivial), hB6⟩, by simp [intOf]⟩
        · have hg : globB a = false := HO.out (by first | rfl | trivial)
          rw [hg] at HQ
          have HBE : Hid (Below w.heap.size w w5) := hBw.trans (hB6.mono (by omega))
          go_wp2
          rw [← HQ.out]
          exact ⟨rfl, HBE.out⟩
      · have cs := blk_cell hbs (j := 11) rfl
        have hG := good4_11 wr
        have hS := fun W => (spc_has 11 ([203, 0, 113, 0], 24) rfl a ha fa W).2
        have hN := glob_next (a := a) (k := 11) (p := ([203, 0, 113, 0], 24)) rfl HALL.out
        have hO := glob_no (a := a) (k := 11) (p := ([203, 0, 113, 0], 24)) rfl
        have HG : Hid _ := hG
        have HS : Hid _ := hS
        have HN : Hid _ := hN
        have HO : Hid _ := hO
        clear hG hS hN hO hbs
        generalize hbb : has4L ([203, 0, 113, 0], (24 : Int)).1 ([203, 0, 113, 0], (24 : Int)).2 a = bb at *
        clear hbb
        go_wp2_with fail
        refine Calls.mono HG.out ?_
        rintro e w3 ⟨rfl, hB3⟩
        obtain ⟨w4, hst4, b4, hB4⟩ := box_new Tryd.sizeOf42 w3 zero5V rfl (cp4 [203, 0, 113, 0] 24) rfl (cp4_one _ _)
        have HS4 : Hid _ := hst4
        have hB14 := hB3.trans (hB4.mono hB3.size)
        have L5 : Hid _ := agg_load (t := 42) Tryd.isAgg42 Tryd.sizeOf42 (vs := cp4 [203, 0, 113, 0] 24) rfl (CellsAt.of_blk b4)
        have L1 : Hid _ := agg_load (t := 27) Tryd.isAgg27 Tryd.sizeOf27 (vs := b8 a) (by rw [b8_length, ha]) (CellsAt.of_blk ((hB14.block w.heap.size (by omega)).trans hba))
        have hB2 : Below W2.heap.size W2 w4 := hB.trans (hB14.mono hB.size)
        clear hst4 HG b4 hB3 hB4 hB14
        go_wp2_with first
          | ((with_reducible show wpList _ _ _ _ _ _); refine armS (.tmp 5) (.tmp 23) 42 rfl rfl rfl rfl HS4.out ?_)
          | ((with_reducible show wpList _ _ _ _ _ _); refine armL (.tmp 5) 42 rfl rfl rfl L5.out ?_)
          | ((with_reducible show wpList _ _ _ _ _ _); refine armL (.tmp 1) 27 rfl rfl rfl L1.out ?_)
        refine (HS.out w4).mono ?_
        rintro e w5 ⟨rfl, hB5⟩
        have hB6 : Below W2.heap.size W2 w5 := hB2.trans (hB5.mono hB2.size)
        cases bb
        · go_wp2
          exact ⟨⟨12, by decide, by simp, HN.out (by first | rfl | trivial), hB6⟩, by simp [intOf]⟩
        · have hg : globB a = false := HO.out (by first | rfl | trivial)
          rw [hg] at HQ
          have HBE : Hid (Below w.heap.size w w5) := hBw.trans (hB6.mono (by omega))
          go_wp2
          rw [← HQ.out]
          exact ⟨rfl, HBE.out⟩
      · have cs := blk_cell hbs (j := 12) rfl
        have hG := good4_12 wr
        have hS := fun W => (spc_has 12 ([224, 0, 0, 0], 4) rfl a ha fa W).2
        have hN := glob_next (a := a) (k := 12) (p := ([224, 0, 0, 0], 4)) rfl HALL.out
        have hO := glob_no (a := a) (k := 12) (p := ([224, 0, 0, 0], 4)) rfl
        have HG : Hid _ := hG
        have HS : Hid _ := hS
        have HN : Hid _ := hN
        have HO : Hid _ := hO
        clear hG hS hN hO hbs
        generalize hbb : has4L ([224, 0, 0, 0], (4 : Int)).1 ([224, 0, 0, 0], (4 : Int)).2 a = bb at *
        clear hbb
        go_wp2_with fail
        refine Calls.mono HG.out ?_
        rintro e w3 ⟨rfl, hB3⟩
        obtain ⟨w4, hst4, b4, hB4⟩ := box_new Tryd.sizeOf42 w3 zero5V rfl (cp4 [224, 0, 0, 0] 4) rfl (cp4_one _ _)
        have HS4 : Hid _ := hst4
        have hB14 := hB3.trans (hB4.mono hB3.size)
        have L5 : Hid _ := agg_load (t := 42) Tryd.isAgg42 Tryd.sizeOf42 (vs := cp4 [224, 0, 0, 0] 4) rfl (CellsAt.of_blk b4)
        have L1 : Hid _ := agg_load (t := 27) Tryd.isAgg27 Tryd.sizeOf27 (vs := b8 a) (by rw [b8_length, ha]) (CellsAt.of_blk ((hB14.block w.heap.size (by omega)).trans hba))
        have hB2 : Below W2.heap.size W2 w4 := hB.trans (hB14.mono hB.size)
        clear hst4 HG b4 hB3 hB4 hB14
        go_wp2_with first
          | ((with_reducible show wpList _ _ _ _ _ _); refine armS (.tmp 5) (.tmp 23) 42 rfl rfl rfl rfl HS4.out ?_)
          | ((with_reducible show wpList _ _ _ _ _ _); refine armL (.tmp 5) 42 rfl rfl rfl L5.out ?_)
          | ((with_reducible show wpList _ _ _ _ _ _); refine armL (.tmp 1) 27 rfl rfl rfl L1.out ?_)
        refine (HS.out w4).mono ?_
        rintro e w5 ⟨rfl, hB5⟩
        have hB6 : Below W2.heap.size W2 w5 := hB2.trans (hB5.mono hB2.size)
        cases bb
        · go_wp2
          exact ⟨⟨13, by decide, by simp, HN.out (by first | rfl | trivial), hB6⟩, by simp [intOf]⟩
        · have hg : globB a = false := HO.out (by first | rfl | trivial)
          rw [hg] at HQ
          have HBE : Hid (Below w.heap.size w w5) := hBw.trans (hB6.mono (by omega))
          go_wp2
          rw [← HQ.out]
          exact ⟨rfl, HBE.out⟩
      · have cs := blk_cell hbs (j := 13) rfl
        have hG := good4_13 wr
        have hS := fun W => (spc_has 13 ([240, 0, 0, 0], 4) rfl a ha fa W).2
        have hN := glob_next (a := a) (k := 13) (p := ([240, 0, 0, 0], 4)) rfl HALL.out
        have hO := glob_no (a := a) (k := 13) (p := ([240, 0, 0, 0], 4)) rfl
        have HG : Hid _ := hG
        have HS : Hid _ := hS
        have HN : Hid _ := hN
        have HO : Hid _ := hO
        clear hG hS hN hO hbs
        generalize hbb : has4L ([240, 0, 0, 0], (4 : Int)).1 ([240, 0, 0, 0], (4 : Int)).2 a = bb at *
        clear hbb
        go_wp2_with fail
        refine Calls.mono HG.out ?_
        rintro e w3 ⟨rfl, hB3⟩
        obtain ⟨w4, hst4, b4, hB4⟩ := box_new Tryd.sizeOf42 w3 zero5V rfl (cp4 [240, 0, 0, 0] 4) rfl (cp4_one _ _)
        have HS4 : Hid _ := hst4
        have hB14 := hB3.trans (hB4.mono hB3.size)
        have L5 : Hid _ := agg_load (t := 42) Tryd.isAgg42 Tryd.sizeOf42 (vs := cp4 [240, 0, 0, 0] 4) rfl (CellsAt.of_blk b4)
        have L1 : Hid _ := agg_load (t := 27) Tryd.isAgg27 Tryd.sizeOf27 (vs := b8 a) (by rw [b8_length, ha]) (CellsAt.of_blk ((hB14.block w.heap.size (by omega)).trans hba))
        have hB2 : Below W2.heap.size W2 w4 := hB.trans (hB14.mono hB.size)
        clear hst4 HG b4 hB3 hB4 hB14
        go_wp2_with first
          | ((with_reducible show wpList _ _ _ _ _ _); refine armS (.tmp 5) (.tmp 23) 42 rfl rfl rfl rfl HS4.out ?_)
          | ((with_reducible show wpList _ _ _ _ _ _); refine armL (.tmp 5) 42 rfl rfl rfl L5.out ?_)
          | ((with_reducible show wpList _ _ _ _ _ _); refine armL (.tmp 1) 27 rfl rfl rfl L1.out ?_)
        refine (HS.out w4).mono ?_
        rintro e w5 ⟨rfl, hB5⟩
        have hB6 : Below W2.heap.size W2 w5 := hB2.trans (hB5.mono hB2.size)
        cases bb
        · go_wp2
          exact ⟨⟨14, by decide, by simp, HN.out (by first | rfl | trivial), hB6⟩, by simp [intOf]⟩
        · have hg : globB a = false := HO.out (by first | rfl | trivial)
          rw [hg] at HQ
          have HBE : Hid (Below w.heap.size w w5) := hBw.trans (hB6.mono (by omega))
          go_wp2
          rw [← HQ.out]
          exact ⟨rfl, HBE.out⟩
    · obtain rfl : k = 14 := by omega
      have hg : globB a = true := HALL.out
      rw [hg] at HQ
      have HBE : Hid (Below w.heap.size w wr) := hBw.trans (hB.mono (by omega))
      go_wp2
      rw [← HQ.out]
      exact ⟨rfl, HBE.out⟩

end Go.Proofs.YtfiiopgdgfbkkaaDoor
