/-
  The rule that is known, and its edge: awake.
-/
import Derived.Test.YtloadmpappjceaaDoorMd1
import Derived.Test.YtloadmpappjceaaDoorQa8p
import Derived.Test.YtloadmpappjceaaDoorFoldD
import Derived.Test.YtloadmpappjceaaDoorMh2
namespace Go.Proofs.YtloadmpappjceaaDoor
open Go Go.RowKit
set_option linter.unusedVariables false
set_option linter.unusedSimpArgs false

theorem fit_of {l : List Int} (h : l.all (fun z => decide (0 ≤ z) && decide (z < 256)) = true) : FitB l := by
  intro z hz
  rw [List.all_eq_true] at h
  have := h z hz
  simpa using this
/-- A text whose groups and colons alone say an address that ends with ::. -/
theorem known_parse6 (s : ByteArray) (L A : List Int) (hs : s.size ≤ 100) (hr : okRun (txt s) s.size 0 ⟨[], -1, []⟩ = true) (hL : read6 (txt s) s.size 0 ⟨[], -1, []⟩ = (⟨L, (L.length : Int), []⟩, s.size)) (h7 : L.length ≤ 7) (hz : ∀ z ∈ L, 0 ≤ z ∧ z < 65536) (hA : byK (L ++ List.replicate (8 - L.length) 0) 8 = A) (W : World) :
    Calls Tryd.prog 78 #[.string s] W fun e w' => Par6Post (A, 0, 0) W e w' := by
  rw [← hA]
  exact Parse6_gap s L W (fun W => Read6_plain s W (by omega) hr) hL h7 hz
def kP1 : ByteArray := ⟨#[50, 48, 48, 49, 58, 100, 98, 56, 58, 58, 47, 52, 48]⟩
def kP1H : ByteArray := ⟨#[50, 48, 48, 49, 58, 100, 98, 56, 58, 58]⟩
def kP1A : List Int := [32, 1, 13, 184, 0, 0, 0, 0, 0, 0, 0, 0, 0, 0, 0, 0]
theorem kP1_good : Good6 kP1 10 kP1A 40 where
  slash := by decide +kernel
  lt := by decide
  short := by decide
  parse := fun W => by
    have e : kP1.extract 0 10 = kP1H := by decide +kernel
    rw [e]
    exact known_parse6 kP1H [8193, 3512] kP1A (by decide) (by decide +kernel) (by decide +kernel) (by decide) (by decide) (by decide +kernel) W
  len := by decide +kernel
  sz := by decide +kernel
  digits := by decide +kernel
  num := by decide +kernel
  ok := by decide +kernel
  a16 := rfl
  fit := fit_of (by decide)
  n64 := by decide
def kP4 : ByteArray := ⟨#[49, 57, 50, 46, 48, 46, 50, 46, 48, 47, 50, 52]⟩
def kP4H : ByteArray := ⟨#[49, 57, 50, 46, 48, 46, 50, 46, 48]⟩
def kP4A : List Int := [192, 0, 2, 0]
theorem kP4H_parse (W : World) : Calls Tryd.prog 81 #[.string kP4H] W fun e w' => Par4R (kP4A, 0, 0) W e w' := by
  have h := Parse4_ref kP4H W (by decide)
  unfold Par4Post at h
  have e : rparse4 (txt kP4H) = (kP4A, 0, 0) := by decide +kernel
  rw [e] at h
  exact h
theorem kP4_good : Good4 kP4 9 kP4A 24 where
  slash := by decide +kernel
  lt := by decide
  short := by decide
  parse := fun W => by
    have e : kP4.extract 0 9 = kP4H := by decide +kernel
    rw [e]
    exact kP4H_parse W
  len := by decide +kernel
  sz := by decide +kernel
  digits := by decide +kernel
  num := by decide +kernel
  ok := by decide +kernel
  a16 := rfl
  fit := fit_of (by decide)
  n64 := by decide

def kR : Ru := ⟨kP1A, 40, kP4A, 24, 16, 6, false⟩
theorem kR_in : kR.In := ⟨fit_of (by decide), rfl, ⟨by decide, by decide⟩, fit_of (by decide), rfl, ⟨by decide, by decide⟩, ⟨by decide, by decide⟩, ⟨by decide, by decide⟩⟩
abbrev zeroRL : List Value := [.int .u8 0, .int .u8 0, .int .u8 0, .int .u8 0, .int .u8 0, .int .u8 0, .int .u8 0, .int .u8 0, .int .u8 0, .int .u8 0, .int .u8 0, .int .u8 0, .int .u8 0, .int .u8 0, .int .u8 0, .int .u8 0, .int .i64 0, .int .u8 0, .int .u8 0, .int .u8 0, .int .u8 0, .int .i64 0, .int .i64 0, .int .i64 0, .bool false]
def kE : Ed := ⟨[192, 0, 2, 18], 32, 6, 8, 52, [32, 1, 13, 184, 0, 18, 52, 0, 0, 0, 0, 0, 0, 0, 0, 0], 56, kA⟩
theorem kE_eq : edg kR 4660 = kE := by
  unfold edg kE
  have e1 : v4L kR 4660 = [192, 0, 2, 18] := by decide +kernel
  have e2 : endL kR 4660 = [32, 1, 13, 184, 0, 18, 52, 0, 0, 0, 0, 0, 0, 0, 0, 0] := by decide +kernel
  have e3 : ownL kR 4660 = kA := by decide +kernel
  have e4 : kR.n4 + hB kR = 32 := by decide +kernel
  have e5 : (if 0 < qB kR then kR.off else 0) = 6 := by decide +kernel
  have e6 : qB kR = 8 := by decide +kernel
  have e7 : pidV kR 4660 = 52 := by decide +kernel
  have e8 : kR.n6 + kR.ea = 56 := by decide +kernel
  rw [e1, e2, e3, e4, e5, e6, e7, e8]
  rfl
theorem kE_edge : edgE kR 4660 = .tuple #[EV kE, .int .i64 0] := by
  unfold edgE
  rw [if_pos (by decide +kernel), if_pos (by decide +kernel), kE_eq]

set_option maxHeartbeats 2000000 in
set_option maxRecDepth 100000 in
theorem known_calls (w : World) : Calls Tryd.prog 40 #[] w fun e w' => e = .returned (RV kR) ∧ Below w.heap.size w w' := by
  generalize hQ : (fun (e : Ending) (w' : World) => e = .returned (RV kR) ∧ Below w.heap.size w w') = Q
  have HQ : Hid _ := hQ
  clear hQ
  have HP6 : Hid _ := fun W => Prefix6_good kP1 10 kP1A 40 kP1_good W
  have HP4 : Hid _ := fun W => Prefix4_good kP4 9 kP4A 24 kP4_good W
  have hb0 := blk_new w (.cells zeroRL.toArray 31)
  have hB0 := bA w (.cells zeroRL.toArray 31)
  generalize hW : w.alloc (.cells zeroRL.toArray 31) = W at *
  go_enter Tryd.func40, Tryd.ntmps40
  go_wp2_with fail
  refine (HP6.out W).mono ?_
  rintro e w1 ⟨rfl, hB1⟩
  obtain ⟨w2, hst2, b2, hB2⟩ := box_new Tryd.sizeOf25 w1 zero17V rfl (cp6 kP1A 40) (cp6_length _ _ rfl) (cp6_one _ _)
  have HS2 : Hid _ := hst2
  have hB02 := hB1.trans (hB2.mono hB1.size)
  clear hst2
  go_wp2_with first
    | ((with_reducible show wpList _ _ _ _ _ _); refine armS (.tmp 1) (.tmp 9) 25 rfl rfl rfl rfl HS2.out ?_)
  refine (HP4.out w2).mono ?_
  rintro e w3 ⟨rfl, hB3⟩
  obtain ⟨w4, hst4, b4, hB4⟩ := box_new Tryd.sizeOf29 w3 zero5V rfl (cp4 kP4A 24) (cp4_length _ _ rfl) (cp4_one _ _)
  have HS4 : Hid _ := hst4
  have hB24 := hB3.trans (hB4.mono hB3.size)
  have hB04 := hB02.trans (hB24.mono hB02.size)
  have b24 := blk_on b2 hB24
  have HL6 : Hid _ := loadP6 (l := kP1A) (n := 40) rfl (CellsAt.pfx rfl b24).1
  have HL4 : Hid _ := agg_load (t := 29) Tryd.isAgg29 Tryd.sizeOf29 (cp4_length kP4A 24 rfl) (CellsAt.of_blk b4)
  have hbld : (Instr.build 31 #[(0, P6 kP1A 40), (1, P4L kP4A 24), (2, .int .i64 16), (3, .int .i64 6)]).run Tryd.prog w4 = .ok (RV kR) w4 := run_build w4 _ _ _ (by kernel_rfl)
  have HBL : Hid _ := hbld
  obtain ⟨wE, hstE, bE, honE⟩ := box_store Tryd.sizeOf31 (blk_on hb0 hB04) rfl (rc kR) (rc_length kR_in) (rc_one _)
  have HSE : Hid _ := hstE
  have HLV : Hid _ := agg_loadVar (t := 31) Tryd.isAgg31 Tryd.sizeOf31 (rc_length kR_in) (CellsAt.of_blk bE)
  have HBE : Hid (Below w.heap.size w wE) := (hB0.trans (hB04.mono hB0.size)).trans (honE.below (Nat.le_refl _))
  clear hst4 hbld hstE bE honE b4 b24 hB3 hB4
  go_wp2_with first
    | ((with_reducible show wpList _ _ _ _ _ _); refine armS (.tmp 4) (.tmp 14) 29 rfl rfl rfl rfl HS4.out ?_)
    | ((with_reducible show wpList _ _ _ _ _ _); refine armL (.tmp 1) 25 rfl rfl rfl HL6.out ?_)
    | ((with_reducible show wpList _ _ _ _ _ _); refine armL (.tmp 4) 29 rfl rfl rfl HL4.out ?_)
    | ((with_reducible show wpList _ _ _ _ _ _); refine arm_build rfl 31 [(0, .tmp 17), (1, .tmp 18), (2, .const (.int .i64 16)), (3, .const (.int .i64 6))] rfl rfl HBL.out ?_)
    | ((with_reducible show wpList _ _ _ _ _ _); refine armS (.tmp 0) (.tmp 19) 31 rfl rfl rfl rfl HSE.out ?_)
  refine bodyPost_ret (res_cell1 Tryd.results40 rfl HLV.out) rfl ?_
  rw [← HQ.out]
  exact ⟨rfl, HBE.out⟩

set_option maxHeartbeats 2000000 in
set_option maxRecDepth 100000 in
theorem awake_calls (w : World) (ht : Tz w) : Calls Tryd.prog 16 #[] w fun e w' => e = .returned (.bool true) ∧ Below w.heap.size w w' := by
  have HKN : Hid _ := fun W => known_calls W
  have HED : Hid (∀ W, Calls Tryd.prog 17 #[RV kR, .int .u64 4660] W fun e w' => e = .returned (.tuple #[EV kE, .int .i64 0]) ∧ Below W.heap.size W w') := fun W => by
    have := Edge_any kR kR_in 4660 (by decide) W
    rw [kE_edge] at this
    exact this
  go_enter Tryd.func16, Tryd.ntmps16
  go_wp2_with fail
  refine (HKN.out w).mono ?_
  rintro e w1 ⟨rfl, hB1⟩
  go_wp2_with fail
  refine (HED.out w1).mono ?_
  rintro e w2 ⟨rfl, hB2⟩
  have hlen : (edC kE).length = 41 := edC_length rfl rfl rfl
  obtain ⟨w3, hst3, b3, hB3⟩ := box_new Tryd.sizeOf45 w2 zeroEL rfl (edC kE) hlen (edC_one _)
  have HS3 : Hid _ := hst3
  have hBw3 := (hB1.trans (hB2.mono hB1.size)).trans (hB3.mono (Nat.le_trans hB1.size hB2.size))
  have HLW : Hid _ := (EdAt.of (e := kE) rfl rfl rfl b3).ldw
  have htx := Text6_known w3 (ht.on hBw3)
  have HTX : Hid _ := htx
  have hq : ((tK 8).toList == [50, 48, 48, 49, 58, 100, 98, 56, 58, 49, 50, 58, 51, 52, 48, 48, 58, 48, 58, 99, 48, 48, 48, 58, 50, 49, 50, 58, 51, 52]) = true := by
    rw [Lib.toList_data]
    rfl
  have hc7 := fun (W : World) (h : Below w3.heap.size w3 W) => (EdAt.of (e := kE) rfl rfl rfl (blk_on b3 h)).c7
  have hc24 := fun (W : World) (h : Below w3.heap.size w3 W) => (EdAt.of (e := kE) rfl rfl rfl (blk_on b3 h)).c24
  have HC7 : Hid _ := hc7
  have HC24 : Hid _ := hc24
  clear hst3 hc7 hc24 htx
  go_wp2_with first
    | ((with_reducible show wpList _ _ _ _ _ _); refine armLg (.tmp 11) 23 rfl rfl rfl HLW.out ?_)
    | ((with_reducible show wpList _ _ _ _ _ _); refine armS (.tmp 1) (.tmp 6) 45 rfl rfl rfl rfl HS3.out ?_)
  refine Calls.mono HTX.out ?_
  rintro e w4 ⟨rfl, hB4⟩
  have c7 : w4.cell? ⟨w2.heap.size, 7, none⟩ = some (.int .u16 52) := HC7.out _ hB4
  have c24 : w4.cell? ⟨w2.heap.size, 24, none⟩ = some (.int .i64 56) := HC24.out _ hB4
  go_wp2
  go_ret
  exact ⟨rfl, hBw3.trans (hB4.mono hBw3.size)⟩

end Go.Proofs.YtloadmpappjceaaDoor
