/-
  The document's zeros, FormatInt at base 16, and its text of one address.
-/
import Derived.Test.YtaebknkjhhcneaaGreatDoorFold08
import Derived.Test.YtaebknkjhhcneaaGreatDoorFold16
import Derived.Deep.RegionLaw
namespace Go.Proofs.YtaebknkjhhcneaaGreatDoor
set_option linter.unusedVariables false
set_option linter.unusedSimpArgs false
open Go Go.RowKit

def hexI (u : Int) : ByteArray :=
  if u < 16 then ⟨#[hexd u.toNat]⟩ else if u < 256 then ⟨#[hexd (u / 16).toNat, hexd (u % 16).toNat]⟩ else if u < 4096 then ⟨#[hexd ((u / 16) / 16).toNat, hexd ((u / 16) % 16).toNat, hexd (u % 16).toNat]⟩ else ⟨#[hexd (((u / 16) / 16) / 16).toNat, hexd (((u / 16) / 16) % 16).toNat, hexd ((u / 16) % 16).toNat, hexd (u % 16).toNat]⟩

theorem bits16 (u : Int) (hu : 0 ≤ u ∧ u < 65536) (w : World) (ht : Tz w) :
    Calls Tryz.prog 150 #[.slice none 0 0, .int .u64 u, .int .i64 16, .bool false, .bool false] w fun e w' => e = .returned (.tuple #[.slice none 0 0, .string (hexI u)]) ∧ Below w.heap.size w w' := by
  have hc := ht.2 w (Below.refl _ _)
  unfold hexI
  by_cases h1 : u < 16
  · rw [if_pos h1]; exact bits16_one u ⟨hu.1, h1⟩ w hc ht.1
  · rw [if_neg h1]
    by_cases h2 : u < 256
    · rw [if_pos h2]; exact bits16_two u ⟨by omega, h2⟩ w hc ht.1
    · rw [if_neg h2]
      by_cases h3 : u < 4096
      · rw [if_pos h3]; exact bits16_three u ⟨by omega, h3⟩ w hc ht.1
      · rw [if_neg h3]; exact bits16_four u ⟨by omega, hu.2⟩ w hc ht.1

set_option maxHeartbeats 1000000 in
theorem format16 (u : Int) (hu : 0 ≤ u ∧ u < 65536) (w : World) (ht : Tz w) :
    Calls Tryz.prog 119 #[.int .i64 u, .int .i64 16] w fun e w' => e = .returned (.string (hexI u)) ∧ Below w.heap.size w w' := by
  have hb := bits16 u hu w ht
  have HB : Hid _ := hb
  clear hb
  generalize hexI u = s at *
  have q : ¬ u < 0 := by omega
  have qw : IntKind.u64.wrap u = u := by unfold IntKind.wrap; simp [IntKind.signed, IntKind.bits]; omega
  go_enter Tryz.func119, Tryz.ntmps119
  go_wp2_with fail
  refine Calls.mono HB.out ?_
  rintro e w' ⟨rfl, hB⟩
  go_wp2
  go_ret
  exact ⟨rfl, hB⟩
theorem formatInt16 (u : Int) (hu : 0 ≤ u ∧ u < 65536) (w : World) (ht : Tz w) :
    Calls Tryz.prog 82 #[.int .i64 u, .int .i64 16] w fun e w' => e = .returned (.string (hexI u)) ∧ Below w.heap.size w w' := by
  have hb := format16 u hu w ht
  have HB : Hid _ := hb
  clear hb
  generalize hexI u = s at *
  go_enter Tryz.func82, Tryz.ntmps82
  go_wp2_with fail
  refine Calls.mono HB.out ?_
  rintro e w' ⟨rfl, hB⟩
  go_wp2
  go_ret
  exact ⟨rfl, hB⟩

def zerC : List Int → Nat
  | [] => 0
  | x :: l => if x = 0 then zerC l + 1 else 0

set_option maxHeartbeats 1000000 in
theorem zeros_ref (g cap : Nat) (G : List Int) (fr : Nat) (w : World) (hl : G.length ≤ 100) (hf : fr ≤ G.length) (hg : ∀ z ∈ G, 0 ≤ z ∧ z < 65536) (hc : ∀ (j : Nat) z, G[j]? = some z → w.cell? ⟨g, j, none⟩ = some (.int .i64 z)) :
    Calls Tryz.prog 81 #[.slice (some ⟨g, 0, none⟩) G.length cap, .int .i64 fr] w fun e w' => e = .returned (.int .i64 (zerC (G.drop fr) : Nat)) ∧ w' = w := by
  generalize hR : zerC (G.drop fr) = R
  have HR : Hid _ := hR
  clear hR
  have HC : Hid _ := hc
  clear hc
  go_enter Tryz.func81, Tryz.ntmps81
  go_wp2
  go_loop [5] (fun i => ∃ k : Nat, fr + k ≤ G.length ∧ i = .int .i64 k ∧ R = k + zerC (G.drop (fr + k))) (fun i => G.length - (intOf i).toNat)
  case atStart => exact ⟨0, by omega, rfl, by rw [← HR.out]; simp⟩
  case round =>
    obtain ⟨k, hk, rfl, hrk⟩ := hrel
    have HK : Hid _ := hrk
    clear hrk HR
    by_cases hlt : fr + k < G.length
    · have hx : G[fr + k]? = some (G[fr + k]'hlt) := by simp
      have hck := HC.out (fr + k) _ hx
      have hd := drop_at hx
      have hz := hg _ (List.mem_of_getElem? hx)
      have q0 : (fr : Int) + k < (G.length : Int) := by omega
      have qi : ((fr : Int) + (k : Int)).toNat = fr + k := by omega
      by_cases h0 : (G[fr + k]'hlt) = 0
      · have he : R = (k + 1) + zerC (G.drop (fr + (k + 1))) := by
          rw [HK.out, hd, zerC, if_pos h0, ← Nat.add_assoc fr k 1]
          omega
        have HE : Hid _ := he
        clear he
        rw [h0] at hck
        clear hd hx hz
        go_wp2
        exact ⟨⟨k + 1, by omega, by simp, HE.out⟩, by simp [intOf]; omega⟩
      · have he : R = k := by
          rw [HK.out, hd, zerC, if_neg h0]
          omega
        have HE : Hid _ := he
        clear he
        have q1 : ((G[fr + k]'hlt) == 0) = false := by simpa using h0
        clear hd hx
        generalize (G[fr + k]'hlt) = z at *
        go_wp2
        go_ret
        exact ⟨by rw [HE.out]; rfl, rfl⟩
    · have HE : Hid (R = k) := by
        rw [HK.out, List.drop_eq_nil_of_le (by omega)]
        rfl
      have q0 : ¬ ((fr : Int) + k < (G.length : Int)) := by omega
      clear HK
      go_wp2
      go_ret
      exact ⟨by rw [HE.out]; rfl, rfl⟩

def kG : List Int := [8193, 3512, 18, 13312, 0, 49152, 530, 52]
def kA : List Int := [32, 1, 13, 184, 0, 18, 52, 0, 0, 0, 192, 0, 2, 18, 0, 52]
/-- The text behind k groups. -/
def tK : Nat → ByteArray
  | 0 => ⟨#[]⟩
  | 1 => ⟨#[50, 48, 48, 49]⟩
  | 2 => ⟨#[50, 48, 48, 49, 58, 100, 98, 56]⟩
  | 3 => ⟨#[50, 48, 48, 49, 58, 100, 98, 56, 58, 49, 50]⟩
  | 4 => ⟨#[50, 48, 48, 49, 58, 100, 98, 56, 58, 49, 50, 58, 51, 52, 48, 48]⟩
  | 5 => ⟨#[50, 48, 48, 49, 58, 100, 98, 56, 58, 49, 50, 58, 51, 52, 48, 48, 58, 48]⟩
  | 6 => ⟨#[50, 48, 48, 49, 58, 100, 98, 56, 58, 49, 50, 58, 51, 52, 48, 48, 58, 48, 58, 99, 48, 48, 48]⟩
  | 7 => ⟨#[50, 48, 48, 49, 58, 100, 98, 56, 58, 49, 50, 58, 51, 52, 48, 48, 58, 48, 58, 99, 48, 48, 48, 58, 50, 49, 50]⟩
  | 8 => ⟨#[50, 48, 48, 49, 58, 100, 98, 56, 58, 49, 50, 58, 51, 52, 48, 48, 58, 48, 58, 99, 48, 48, 48, 58, 50, 49, 50, 58, 51, 52]⟩
  | _ => ⟨#[]⟩
def uK : Nat → ByteArray
  | 1 => ⟨#[50, 48, 48, 49, 58]⟩
  | 2 => ⟨#[50, 48, 48, 49, 58, 100, 98, 56, 58]⟩
  | 3 => ⟨#[50, 48, 48, 49, 58, 100, 98, 56, 58, 49, 50, 58]⟩
  | 4 => ⟨#[50, 48, 48, 49, 58, 100, 98, 56, 58, 49, 50, 58, 51, 52, 48, 48, 58]⟩
  | 5 => ⟨#[50, 48, 48, 49, 58, 100, 98, 56, 58, 49, 50, 58, 51, 52, 48, 48, 58, 48, 58]⟩
  | 6 => ⟨#[50, 48, 48, 49, 58, 100, 98, 56, 58, 49, 50, 58, 51, 52, 48, 48, 58, 48, 58, 99, 48, 48, 48, 58]⟩
  | 7 => ⟨#[50, 48, 48, 49, 58, 100, 98, 56, 58, 49, 50, 58, 51, 52, 48, 48, 58, 48, 58, 99, 48, 48, 48, 58, 50, 49, 50, 58]⟩
  | _ => ⟨#[]⟩

def Inv2 (wr : World) (at_ most i : Value) (wq : World) : Prop := ∃ k : Nat, k ≤ 8 ∧ i = .int .i64 k ∧ at_ = .int .i64 (-1) ∧ most = .int .i64 1 ∧ wq = wr
def Inv3 (wr : World) (sv i : Value) (wq : World) : Prop := ∃ k : Nat, k ≤ 8 ∧ i = .int .i64 k ∧ sv = .string (tK k) ∧ Below wr.heap.size wr wq

set_option maxHeartbeats 4000000 in
set_option maxRecDepth 100000 in
theorem Text6_known (w : World) (ht : Tz w) : Calls Tryz.prog 37 #[.agg (b8 kA).toArray] w fun e w' => e = .returned (.string (tK 8)) ∧ Below w.heap.size w w' := by
  have hb0 := blk_new w (.cells (b8 kA).toArray 24)
  have hB0 := (Below.refl w.heap.size w).alloc (Nat.le_refl _) (.cells (b8 kA).toArray 24)
  have hz0 : (w.alloc (.cells (b8 kA).toArray 24)).heap.size = w.heap.size + 1 := by simp
  have HZ0 : Hid _ := hz0
  clear hz0
  generalize hT : tK 8 = T8
  have HT8 : Hid _ := hT
  clear hT
  go_enter Tryz.func37, Tryz.ntmps37
  generalize hW0 : w.alloc (.cells (b8 kA).toArray 24) = W0 at *
  have htw : Tz W0 := ht.on hB0
  go_wp2
  go_loopw [3, 4] (fun v i wr => ∃ k : Nat, k ≤ 8 ∧ i = .int .i64 k ∧ wr.ownsRow W0.heap.size 3 1 v k (intsL (kG.take k)) ∧ Below W0.heap.size W0 wr) (fun _ i _ => 8 - (intOf i).toNat)
  case atStart => exact ⟨0, Nat.zero_le _, rfl, World.ownsRow_nil _ _ _ _, Below.refl _ _⟩
  case round =>
    obtain ⟨k, hk, rfl, hown, hB⟩ := hrel
    by_cases hlt : k < 8
    · have hszr := hB.size
      have hbx : wr.heap[w.heap.size]? = _ := (hB.block _ (by have := HZ0.out; omega)).trans hb0
      have hkk : k = 0 ∨ k = 1 ∨ k = 2 ∨ k = 3 ∨ k = 4 ∨ k = 5 ∨ k = 6 ∨ k = 7 := by omega
      rcases hkk with rfl | rfl | rfl | rfl | rfl | rfl | rfl | rfl
      · have r1 := blk_cell hbx (j := 0) rfl
        have r2 := blk_cell hbx (j := 1) rfl
        obtain ⟨v', w1, hrun, hown', hgrow⟩ := own_num (w := wr.drew) (xs := kG.take 0) hown hszr (by decide) 8193 137
        have hB1 : Below W0.heap.size W0 w1 := below_grown (w := wr.drew) hB.drew hown hgrow hszr
        have HR1 : Hid _ := hrun
        have HO1 : Hid (w1.ownsRow W0.heap.size 3 1 v' 1 (intsL (kG.take 1))) := hown'
        obtain ⟨a0, cap0, hv0, _⟩ := own_form hown
        obtain ⟨a1, cap1, hv1, _⟩ := own_form HO1.out
        have x0 : IntKind.i64.wrap 0 = 0 := by decide
        have x1 : IntKind.i64.wrap 1 = 1 := by decide
        have x8192 : IntKind.i64.wrap 8192 = 8192 := by decide
        have x8193 : IntKind.i64.wrap 8193 = 8193 := by decide
        subst hv0 hv1
        have r3 : ∀ o, (wr.drew.alloc o).cell? ⟨w.heap.size, 0, none⟩ = _ := fun o => (World.cell?_alloc_lt _ _ _ (Array.getElem?_eq_some_iff.1 hbx).1).trans r1
        have r4 : ∀ o, (wr.drew.alloc o).cell? ⟨w.heap.size, 1, none⟩ = _ := fun o => (World.cell?_alloc_lt _ _ _ (Array.getElem?_eq_some_iff.1 hbx).1).trans r2
        clear hrun hown' hown hgrow hbx
        go_wp2_with fail
        go_region_law (refine step_append_ex (R := fun v w2 => v = .slice a1 1 cap1 ∧ w2 = w1) rfl _ _ _ _ rfl rfl rfl ⟨_, _, HR1.out, rfl, rfl⟩ ?_; rintro _ _ ⟨rfl, rfl⟩)
        all_goals
          go_wp2
          exact ⟨⟨1, by decide, by simp, HO1.out, hB1⟩, by simp [intOf]⟩
      · have r1 := blk_cell hbx (j := 2) rfl
        have r2 := blk_cell hbx (j := 3) rfl
        obtain ⟨v', w1, hrun, hown', hgrow⟩ := own_num (w := wr.drew) (xs := kG.take 1) hown hszr (by decide) 3512 137
        have hB1 : Below W0.heap.size W0 w1 := below_grown (w := wr.drew) hB.drew hown hgrow hszr
        have HR1 : Hid _ := hrun
        have HO1 : Hid (w1.ownsRow W0.heap.size 3 1 v' 2 (intsL (kG.take 2))) := hown'
        obtain ⟨a0, cap0, hv0, _⟩ := own_form hown
        obtain ⟨a1, cap1, hv1, _⟩ := own_form HO1.out
        have x2 : IntKind.i64.wrap 2 = 2 := by decide
        have x3 : IntKind.i64.wrap 3 = 3 := by decide
        have x3328 : IntKind.i64.wrap 3328 = 3328 := by decide
        have x3512 : IntKind.i64.wrap 3512 = 3512 := by decide
        subst hv0 hv1
        have r3 : ∀ o, (wr.drew.alloc o).cell? ⟨w.heap.size, 2, none⟩ = _ := fun o => (World.cell?_alloc_lt _ _ _ (Array.getElem?_eq_some_iff.1 hbx).1).trans r1
        have r4 : ∀ o, (wr.drew.alloc o).cell? ⟨w.heap.size, 3, none⟩ = _ := fun o => (World.cell?_alloc_lt _ _ _ (Array.getElem?_eq_some_iff.1 hbx).1).trans r2
        clear hrun hown' hown hgrow hbx
        go_wp2_with fail
        go_region_law (refine step_append_ex (R := fun v w2 => v = .slice a1 2 cap1 ∧ w2 = w1) rfl _ _ _ _ rfl rfl rfl ⟨_, _, HR1.out, rfl, rfl⟩ ?_; rintro _ _ ⟨rfl, rfl⟩)
        all_goals
          go_wp2
          exact ⟨⟨2, by decide, by simp, HO1.out, hB1⟩, by simp [intOf]⟩
      · have r1 := blk_cell hbx (j := 4) rfl
        have r2 := blk_cell hbx (j := 5) rfl
        obtain ⟨v', w1, hrun, hown', hgrow⟩ := own_num (w := wr.drew) (xs := kG.take 2) hown hszr (by decide) 18 137
        have hB1 : Below W0.heap.size W0 w1 := below_grown (w := wr.drew) hB.drew hown hgrow hszr
        have HR1 : Hid _ := hrun
        have HO1 : Hid (w1.ownsRow W0.heap.size 3 1 v' 3 (intsL (kG.take 3))) := hown'
        obtain ⟨a0, cap0, hv0, _⟩ := own_form hown
        obtain ⟨a1, cap1, hv1, _⟩ := own_form HO1.out
        have x0 : IntKind.i64.wrap 0 = 0 := by decide
        have x4 : IntKind.i64.wrap 4 = 4 := by decide
        have x5 : IntKind.i64.wrap 5 = 5 := by decide
        have x18 : IntKind.i64.wrap 18 = 18 := by decide
        subst hv0 hv1
        have r3 : ∀ o, (wr.drew.alloc o).cell? ⟨w.heap.size, 4, none⟩ = _ := fun o => (World.cell?_alloc_lt _ _ _ (Array.getElem?_eq_some_iff.1 hbx).1).trans r1
        have r4 : ∀ o, (wr.drew.alloc o).cell? ⟨w.heap.size, 5, none⟩ = _ := fun o => (World.cell?_alloc_lt _ _ _ (Array.getElem?_eq_some_iff.1 hbx).1).trans r2
        clear hrun hown' hown hgrow hbx
        go_wp2_with fail
        go_region_law (refine step_append_ex (R := fun v w2 => v = .slice a1 3 cap1 ∧ w2 = w1) rfl _ _ _ _ rfl rfl rfl ⟨_, _, HR1.out, rfl, rfl⟩ ?_; rintro _ _ ⟨rfl, rfl⟩)
        all_goals
          go_wp2
          exact ⟨⟨3, by decide, by simp, HO1.out, hB1⟩, by simp [intOf]⟩
      · have r1 := blk_cell hbx (j := 6) rfl
        have r2 := blk_cell hbx (j := 7) rfl
        obtain ⟨v', w1, hrun, hown', hgrow⟩ := own_num (w := wr.drew) (xs := kG.take 3) hown hszr (by decide) 13312 137
        have hB1 : Below W0.heap.size W0 w1 := below_grown (w := wr.drew) hB.drew hown hgrow hszr
        have HR1 : Hid _ := hrun
        have HO1 : Hid (w1.ownsRow W0.heap.size 3 1 v' 4 (intsL (kG.take 4))) := hown'
        obtain ⟨a0, cap0, hv0, _⟩ := own_form hown
        obtain ⟨a1, cap1, hv1, _⟩ := own_form HO1.out
        have x6 : IntKind.i64.wrap 6 = 6 := by decide
        have x7 : IntKind.i64.wrap 7 = 7 := by decide
        have x13312 : IntKind.i64.wrap 13312 = 13312 := by decide
        subst hv0 hv1
        have r3 : ∀ o, (wr.drew.alloc o).cell? ⟨w.heap.size, 6, none⟩ = _ := fun o => (World.cell?_alloc_lt _ _ _ (Array.getElem?_eq_some_iff.1 hbx).1).trans r1
        have r4 : ∀ o, (wr.drew.alloc o).cell? ⟨w.heap.size, 7, none⟩ = _ := fun o => (World.cell?_alloc_lt _ _ _ (Array.getElem?_eq_some_iff.1 hbx).1).trans r2
        clear hrun hown' hown hgrow hbx
        go_wp2_with fail
        go_region_law (refine step_append_ex (R := fun v w2 => v = .slice a1 4 cap1 ∧ w2 = w1) rfl _ _ _ _ rfl rfl rfl ⟨_, _, HR1.out, rfl, rfl⟩ ?_; rintro _ _ ⟨rfl, rfl⟩)
        all_goals
          go_wp2
          exact ⟨⟨4, by decide, by simp, HO1.out, hB1⟩, by simp [intOf]⟩
      · have r1 := blk_cell hbx (j := 8) rfl
        have r2 := blk_cell hbx (j := 9) rfl
        obtain ⟨v', w1, hrun, hown', hgrow⟩ := own_num (w := wr.drew) (xs := kG.take 4) hown hszr (by decide) 0 137
        have hB1 : Below W0.heap.size W0 w1 := below_grown (w := wr.drew) hB.drew hown hgrow hszr
        have HR1 : Hid _ := hrun
        have HO1 : Hid (w1.ownsRow W0.heap.size 3 1 v' 5 (intsL (kG.take 5))) := hown'
        obtain ⟨a0, cap0, hv0, _⟩ := own_form hown
        obtain ⟨a1, cap1, hv1, _⟩ := own_form HO1.out
        have x0 : IntKind.i64.wrap 0 = 0 := by decide
        have x8 : IntKind.i64.wrap 8 = 8 := by decide
        have x9 : IntKind.i64.wrap 9 = 9 := by decide
        subst hv0 hv1
        have r3 : ∀ o, (wr.drew.alloc o).cell? ⟨w.heap.size, 8, none⟩ = _ := fun o => (World.cell?_alloc_lt _ _ _ (Array.getElem?_eq_some_iff.1 hbx).1).trans r1
        have r4 : ∀ o, (wr.drew.alloc o).cell? ⟨w.heap.size, 9, none⟩ = _ := fun o => (World.cell?_alloc_lt _ _ _ (Array.getElem?_eq_some_iff.1 hbx).1).trans r2
        clear hrun hown' hown hgrow hbx
        go_wp2_with fail
        go_region_law (refine step_append_ex (R := fun v w2 => v = .slice a1 5 cap1 ∧ w2 = w1) rfl _ _ _ _ rfl rfl rfl ⟨_, _, HR1.out, rfl, rfl⟩ ?_; rintro _ _ ⟨rfl, rfl⟩)
        all_goals
          go_wp2
          exact ⟨⟨5, by decide, by simp, HO1.out, hB1⟩, by simp [intOf]⟩
      · have r1 := blk_cell hbx (j := 10) rfl
        have r2 := blk_cell hbx (j := 11) rfl
        obtain ⟨v', w1, hrun, hown', hgrow⟩ := own_num (w := wr.drew) (xs := kG.take 5) hown hszr (by decide) 49152 137
        have hB1 : Below W0.heap.size W0 w1 := below_grown (w := wr.drew) hB.drew hown hgrow hszr
        have HR1 : Hid _ := hrun
        have HO1 : Hid (w1.ownsRow W0.heap.size 3 1 v' 6 (intsL (kG.take 6))) := hown'
        obtain ⟨a0, cap0, hv0, _⟩ := own_form hown
        obtain ⟨a1, cap1, hv1, _⟩ := own_form HO1.out
        have x10 : IntKind.i64.wrap 10 = 10 := by decide
        have x11 : IntKind.i64.wrap 11 = 11 := by decide
        have x49152 : IntKind.i64.wrap 49152 = 49152 := by decide
        subst hv0 hv1
        have r3 : ∀ o, (wr.drew.alloc o).cell? ⟨w.heap.size, 10, none⟩ = _ := fun o => (World.cell?_alloc_lt _ _ _ (Array.getElem?_eq_some_iff.1 hbx).1).trans r1
        have r4 : ∀ o, (wr.drew.alloc o).cell? ⟨w.heap.size, 11, none⟩ = _ := fun o => (World.cell?_alloc_lt _ _ _ (Array.getElem?_eq_some_iff.1 hbx).1).trans r2
        clear hrun hown' hown hgrow hbx
        go_wp2_with fail
        go_region_law (refine step_append_ex (R := fun v w2 => v = .slice a1 6 cap1 ∧ w2 = w1) rfl _ _ _ _ rfl rfl rfl ⟨_, _, HR1.out, rfl, rfl⟩ ?_; rintro _ _ ⟨rfl, rfl⟩)
        all_goals
          go_wp2
          exact ⟨⟨6, by decide, by simp, HO1.out, hB1⟩, by simp [intOf]⟩
      · have r1 := blk_cell hbx (j := 12) rfl
        have r2 := blk_cell hbx (j := 13) rfl
        obtain ⟨v', w1, hrun, hown', hgrow⟩ := own_num (w := wr.drew) (xs := kG.take 6) hown hszr (by decide) 530 137
        have hB1 : Below W0.heap.size W0 w1 := below_grown (w := wr.drew) hB.drew hown hgrow hszr
        have HR1 : Hid _ := hrun
        have HO1 : Hid (w1.ownsRow W0.heap.size 3 1 v' 7 (intsL (kG.take 7))) := hown'
        obtain ⟨a0, cap0, hv0, _⟩ := own_form hown
        obtain ⟨a1, cap1, hv1, _⟩ := own_form HO1.out
        have x12 : IntKind.i64.wrap 12 = 12 := by decide
        have x13 : IntKind.i64.wrap 13 = 13 := by decide
        have x512 : IntKind.i64.wrap 512 = 512 := by decide
        have x530 : IntKind.i64.wrap 530 = 530 := by decide
        subst hv0 hv1
        have r3 : ∀ o, (wr.drew.alloc o).cell? ⟨w.heap.size, 12, none⟩ = _ := fun o => (World.cell?_alloc_lt _ _ _ (Array.getElem?_eq_some_iff.1 hbx).1).trans r1
        have r4 : ∀ o, (wr.drew.alloc o).cell? ⟨w.heap.size, 13, none⟩ = _ := fun o => (World.cell?_alloc_lt _ _ _ (Array.getElem?_eq_some_iff.1 hbx).1).trans r2
        clear hrun hown' hown hgrow hbx
        go_wp2_with fail
        go_region_law (refine step_append_ex (R := fun v w2 => v = .slice a1 7 cap1 ∧ w2 = w1) rfl _ _ _ _ rfl rfl rfl ⟨_, _, HR1.out, rfl, rfl⟩ ?_; rintro _ _ ⟨rfl, rfl⟩)
        all_goals
          go_wp2
          exact ⟨⟨7, by decide, by simp, HO1.out, hB1⟩, by simp [intOf]⟩
      · have r1 := blk_cell hbx (j := 14) rfl
        have r2 := blk_cell hbx (j := 15) rfl
        obtain ⟨v', w1, hrun, hown', hgrow⟩ := own_num (w := wr.drew) (xs := kG.take 7) hown hszr (by decide) 52 137
        have hB1 : Below W0.heap.size W0 w1 := below_grown (w := wr.drew) hB.drew hown hgrow hszr
        have HR1 : Hid _ := hrun
        have HO1 : Hid (w1.ownsRow W0.heap.size 3 1 v' 8 (intsL (kG.take 8))) := hown'
        obtain ⟨a0, cap0, hv0, _⟩ := own_form hown
        obtain ⟨a1, cap1, hv1, _⟩ := own_form HO1.out
        have x0 : IntKind.i64.wrap 0 = 0 := by decide
        have x14 : IntKind.i64.wrap 14 = 14 := by decide
        have x15 : IntKind.i64.wrap 15 = 15 := by decide
        have x52 : IntKind.i64.wrap 52 = 52 := by decide
        subst hv0 hv1
        have r3 : ∀ o, (wr.drew.alloc o).cell? ⟨w.heap.size, 14, none⟩ = _ := fun o => (World.cell?_alloc_lt _ _ _ (Array.getElem?_eq_some_iff.1 hbx).1).trans r1
        have r4 : ∀ o, (wr.drew.alloc o).cell? ⟨w.heap.size, 15, none⟩ = _ := fun o => (World.cell?_alloc_lt _ _ _ (Array.getElem?_eq_some_iff.1 hbx).1).trans r2
        clear hrun hown' hown hgrow hbx
        go_wp2_with fail
        go_region_law (refine step_append_ex (R := fun v w2 => v = .slice a1 8 cap1 ∧ w2 = w1) rfl _ _ _ _ rfl rfl rfl ⟨_, _, HR1.out, rfl, rfl⟩ ?_; rintro _ _ ⟨rfl, rfl⟩)
        all_goals
          go_wp2
          exact ⟨⟨8, by decide, by simp, HO1.out, hB1⟩, by simp [intOf]⟩
    · obtain rfl : k = 8 := by omega
      have e8 : kG.take 8 = kG := rfl
      rw [e8] at hown
      obtain ⟨a, cap, rfl, _, hz⟩ := own_form hown
      rcases hz with hz | ⟨g, rfl, _, hg, hc⟩
      · exact absurd hz (by decide)
      have hBw : Below w.heap.size w wr := hB0.trans (hB.mono (by have := HZ0.out; omega))
      have htr : Tz wr := ht.on hBw
      have hk8 : kG.length = 8 := rfl
      have hcz : ∀ y : Hi wr, ∀ (j : Nat) z, kG[j]? = some z → y.W.cell? ⟨g, j, none⟩ = some (.int .i64 z) := fun y j z hj => (y.below.cell (p := ⟨g, j, none⟩) hg).trans (hc j _ (by rw [intsL, List.getElem?_map, hj]; rfl))
      have hze : ∀ (fr : Nat) (y : Hi wr), fr ≤ 8 → Calls Tryz.prog 81 #[.slice (some ⟨g, 0, none⟩) kG.length cap, .int .i64 fr] y.W fun e w' => e = .returned (.int .i64 (zerC (kG.drop fr) : Nat)) ∧ w' = y.W := fun fr y hf => zeros_ref g cap kG fr y.W (by decide) hf (by decide) (hcz y)
      have HZE : Hid _ := hze
      have HCZ : Hid _ := hcz
      have HTR : Hid _ := htr
      clear hown hc hcz hze htr e8 hb0 hB0 ht htw hk hlt hB
      rw [hk8] at HZE
      rw [show ((8 : Nat) : Int) = 8 from rfl]
      go_wp2
      go_loopw [5, 6, 7] (fun at_ most i wq => Inv2 wr at_ most i wq) (fun _ _ i _ => 8 - (intOf i).toNat)
      case atStart => exact ⟨0, Nat.zero_le _, rfl, rfl, rfl, rfl⟩
      case round =>
        obtain ⟨k, hk, rfl, rfl, rfl, rfl⟩ := hrel
        by_cases hlt : k < 8
        · have hz1 : ((zerC (kG.drop k) : Nat) : Int) ≤ 1 := by
            have : ∀ k, k < 8 → zerC (kG.drop k) ≤ 1 := by decide
            have := this k hlt
            omega
          have hzk := HZE.out k (Hi.refl _) (by omega)
          simp only [Hi.refl] at hzk
          have HZK : Hid _ := hzk
          clear hzk
          generalize zerC (kG.drop k) = zz at *
          go_wp2_with fail
          refine Calls.mono HZK.out ?_
          rintro e w' ⟨rfl, rfl⟩
          go_wp2
          exact ⟨⟨k + 1, by omega, by simp, rfl, rfl, rfl⟩, by simp [intOf]; omega⟩
        · obtain rfl : k = 8 := by omega
          rw [show ((8 : Nat) : Int) = 8 from rfl]
          go_wp2
          go_loopw [8, 9] (fun sv i wq => Inv3 wr sv i wq) (fun _ i _ => 8 - (intOf i).toNat)
          case atStart => exact ⟨0, Nat.zero_le _, rfl, rfl, Below.refl _ _⟩
          case round =>
            clear HZE
            obtain ⟨k, hk, rfl, rfl, hBq⟩ := hrel
            by_cases hlt : k < 8
            · have hkk : k = 0 ∨ k = 1 ∨ k = 2 ∨ k = 3 ∨ k = 4 ∨ k = 5 ∨ k = 6 ∨ k = 7 := by omega
              have hcq := HCZ.out ⟨wr, hBq⟩
              rcases hkk with rfl | rfl | rfl | rfl | rfl | rfl | rfl | rfl
              · have r1 := hcq 0 8193 rfl
                have HF : Hid _ := formatInt16 8193 (by decide) wr (Tz.on HTR.out hBq)
                have HCT : Hid (∀ W, (Op.stringOp .add (tK 0) (hexI 8193)).run Tryz.prog W = .ok (.string (tK 1)) W) := fun W => by
                  rw [run_string_add_sum W _ _ (by decide)]
                  exact congrArg (fun s => Result.ok (Value.string s) W) (by decide)
                have h1 : (tK 0).toList.isEmpty = true := toList_none _ (by decide)
                have h5 := HCT.out
                clear hcq HCT
                go_wp2_with fail
                refine Calls.mono HF.out ?_
                rintro e w' ⟨rfl, hBf⟩
                go_wp2
                exact ⟨⟨1, by decide, by simp, rfl, hBq.trans (hBf.mono hBq.size)⟩, by simp [intOf]⟩
              · have r1 := hcq 1 3512 rfl
                have HF : Hid _ := formatInt16 3512 (by decide) wr (Tz.on HTR.out hBq)
                have HCT : Hid (∀ W, (Op.stringOp .add (uK 1) (hexI 3512)).run Tryz.prog W = .ok (.string (tK 2)) W) := fun W => by
                  rw [run_string_add_sum W _ _ (by decide)]
                  exact congrArg (fun s => Result.ok (Value.string s) W) (by decide)
                have h1 : (tK 1).toList.isEmpty = false := toList_empty _ (by decide)
                have h2 : (tK 1).size = 4 := by decide
                have h3 : (tK 1)[3]'(by decide) = 49 := by decide
                have h4 : ∀ W, (Op.stringOp .add (tK 1) ⟨#[58]⟩).run Tryz.prog W = .ok (.string (uK 1)) W := fun W => by
                  rw [run_string_add_sum W _ _ (by decide)]
                  exact congrArg (fun s => Result.ok (Value.string s) W) (by decide)
                have h5 := HCT.out
                clear hcq HCT
                go_wp2_with fail
                refine Calls.mono HF.out ?_
                rintro e w' ⟨rfl, hBf⟩
                go_wp2
                exact ⟨⟨2, by decide, by simp, rfl, hBq.trans (hBf.mono hBq.size)⟩, by simp [intOf]⟩
              · have r1 := hcq 2 18 rfl
                have HF : Hid _ := formatInt16 18 (by decide) wr (Tz.on HTR.out hBq)
                have HCT : Hid (∀ W, (Op.stringOp .add (uK 2) (hexI 18)).run Tryz.prog W = .ok (.string (tK 3)) W) := fun W => by
                  rw [run_string_add_sum W _ _ (by decide)]
                  exact congrArg (fun s => Result.ok (Value.string s) W) (by decide)
                have h1 : (tK 2).toList.isEmpty = false := toList_empty _ (by decide)
                have h2 : (tK 2).size = 8 := by decide
                have h3 : (tK 2)[7]'(by decide) = 56 := by decide
                have h4 : ∀ W, (Op.stringOp .add (tK 2) ⟨#[58]⟩).run Tryz.prog W = .ok (.string (uK 2)) W := fun W => by
                  rw [run_string_add_sum W _ _ (by decide)]
                  exact congrArg (fun s => Result.ok (Value.string s) W) (by decide)
                have h5 := HCT.out
                clear hcq HCT
                go_wp2_with fail
                refine Calls.mono HF.out ?_
                rintro e w' ⟨rfl, hBf⟩
                go_wp2
                exact ⟨⟨3, by decide, by simp, rfl, hBq.trans (hBf.mono hBq.size)⟩, by simp [intOf]⟩
              · have r1 := hcq 3 13312 rfl
                have HF : Hid _ := formatInt16 13312 (by decide) wr (Tz.on HTR.out hBq)
                have HCT : Hid (∀ W, (Op.stringOp .add (uK 3) (hexI 13312)).run Tryz.prog W = .ok (.string (tK 4)) W) := fun W => by
                  rw [run_string_add_sum W _ _ (by decide)]
                  exact congrArg (fun s => Result.ok (Value.string s) W) (by decide)
                have h1 : (tK 3).toList.isEmpty = false := toList_empty _ (by decide)
                have h2 : (tK 3).size = 11 := by decide
                have h3 : (tK 3)[10]'(by decide) = 50 := by decide
                have h4 : ∀ W, (Op.stringOp .add (tK 3) ⟨#[58]⟩).run Tryz.prog W = .ok (.string (uK 3)) W := fun W => by
                  rw [run_string_add_sum W _ _ (by decide)]
                  exact congrArg (fun s => Result.ok (Value.string s) W) (by decide)
                have h5 := HCT.out
                clear hcq HCT
                go_wp2_with fail
                refine Calls.mono HF.out ?_
                rintro e w' ⟨rfl, hBf⟩
                go_wp2
                exact ⟨⟨4, by decide, by simp, rfl, hBq.trans (hBf.mono hBq.size)⟩, by simp [intOf]⟩
              · have r1 := hcq 4 0 rfl
                have HF : Hid _ := formatInt16 0 (by decide) wr (Tz.on HTR.out hBq)
                have HCT : Hid (∀ W, (Op.stringOp .add (uK 4) (hexI 0)).run Tryz.prog W = .ok (.string (tK 5)) W) := fun W => by
                  rw [run_string_add_sum W _ _ (by decide)]
                  exact congrArg (fun s => Result.ok (Value.string s) W) (by decide)
                have h1 : (tK 4).toList.isEmpty = false := toList_empty _ (by decide)
                have h2 : (tK 4).size = 16 := by decide
                have h3 : (tK 4)[15]'(by decide) = 48 := by decide
                have h4 : ∀ W, (Op.stringOp .add (tK 4) ⟨#[58]⟩).run Tryz.prog W = .ok (.string (uK 4)) W := fun W => by
                  rw [run_string_add_sum W _ _ (by decide)]
                  exact congrArg (fun s => Result.ok (Value.string s) W) (by decide)
                have h5 := HCT.out
                clear hcq HCT
                go_wp2_with fail
                refine Calls.mono HF.out ?_
                rintro e w' ⟨rfl, hBf⟩
                go_wp2
                exact ⟨⟨5, by decide, by simp, rfl, hBq.trans (hBf.mono hBq.size)⟩, by simp [intOf]⟩
              · have r1 := hcq 5 49152 rfl
                have HF : Hid _ := formatInt16 49152 (by decide) wr (Tz.on HTR.out hBq)
                have HCT : Hid (∀ W, (Op.stringOp .add (uK 5) (hexI 49152)).run Tryz.prog W = .ok (.string (tK 6)) W) := fun W => by
                  rw [run_string_add_sum W _ _ (by decide)]
                  exact congrArg (fun s => Result.ok (Value.string s) W) (by decide)
                have h1 : (tK 5).toList.isEmpty = false := toList_empty _ (by decide)
                have h2 : (tK 5).size = 18 := by decide
                have h3 : (tK 5)[17]'(by decide) = 48 := by decide
                have h4 : ∀ W, (Op.stringOp .add (tK 5) ⟨#[58]⟩).run Tryz.prog W = .ok (.string (uK 5)) W := fun W => by
                  rw [run_string_add_sum W _ _ (by decide)]
                  exact congrArg (fun s => Result.ok (Value.string s) W) (by decide)
                have h5 := HCT.out
                clear hcq HCT
                go_wp2_with fail
                refine Calls.mono HF.out ?_
                rintro e w' ⟨rfl, hBf⟩
                go_wp2
                exact ⟨⟨6, by decide, by simp, rfl, hBq.trans (hBf.mono hBq.size)⟩, by simp [intOf]⟩
              · have r1 := hcq 6 530 rfl
                have HF : Hid _ := formatInt16 530 (by decide) wr (Tz.on HTR.out hBq)
                have HCT : Hid (∀ W, (Op.stringOp .add (uK 6) (hexI 530)).run Tryz.prog W = .ok (.string (tK 7)) W) := fun W => by
                  rw [run_string_add_sum W _ _ (by decide)]
                  exact congrArg (fun s => Result.ok (Value.string s) W) (by decide)
                have h1 : (tK 6).toList.isEmpty = false := toList_empty _ (by decide)
                have h2 : (tK 6).size = 23 := by decide
                have h3 : (tK 6)[22]'(by decide) = 48 := by decide
                have h4 : ∀ W, (Op.stringOp .add (tK 6) ⟨#[58]⟩).run Tryz.prog W = .ok (.string (uK 6)) W := fun W => by
                  rw [run_string_add_sum W _ _ (by decide)]
                  exact congrArg (fun s => Result.ok (Value.string s) W) (by decide)
                have h5 := HCT.out
                clear hcq HCT
                go_wp2_with fail
                refine Calls.mono HF.out ?_
                rintro e w' ⟨rfl, hBf⟩
                go_wp2
                exact ⟨⟨7, by decide, by simp, rfl, hBq.trans (hBf.mono hBq.size)⟩, by simp [intOf]⟩
              · have r1 := hcq 7 52 rfl
                have HF : Hid _ := formatInt16 52 (by decide) wr (Tz.on HTR.out hBq)
                have HCT : Hid (∀ W, (Op.stringOp .add (uK 7) (hexI 52)).run Tryz.prog W = .ok (.string (tK 8)) W) := fun W => by
                  rw [run_string_add_sum W _ _ (by decide)]
                  exact congrArg (fun s => Result.ok (Value.string s) W) (by decide)
                have h1 : (tK 7).toList.isEmpty = false := toList_empty _ (by decide)
                have h2 : (tK 7).size = 27 := by decide
                have h3 : (tK 7)[26]'(by decide) = 50 := by decide
                have h4 : ∀ W, (Op.stringOp .add (tK 7) ⟨#[58]⟩).run Tryz.prog W = .ok (.string (uK 7)) W := fun W => by
                  rw [run_string_add_sum W _ _ (by decide)]
                  exact congrArg (fun s => Result.ok (Value.string s) W) (by decide)
                have h5 := HCT.out
                clear hcq HCT
                go_wp2_with fail
                refine Calls.mono HF.out ?_
                rintro e w' ⟨rfl, hBf⟩
                go_wp2
                exact ⟨⟨8, by decide, by simp, rfl, hBq.trans (hBf.mono hBq.size)⟩, by simp [intOf]⟩
            · obtain rfl : k = 8 := by omega
              go_wp2
              go_ret
              exact ⟨by rw [← HT8.out]; rfl, hBw.trans (hBq.mono hBw.size)⟩

end Go.Proofs.YtaebknkjhhcneaaGreatDoor
