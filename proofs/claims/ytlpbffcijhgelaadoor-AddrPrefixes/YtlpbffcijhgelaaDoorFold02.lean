/-
  Numbers below 65536 in hex digits.
  Numbers below 65536 in hex digits: formatBits.
  The own text of one known address.
  The text of the known IPv6 address.
  The two tables that the program reads, out of what the statements lay.
  The two texts that are known.
-/
import Derived.Test.YtlpbffcijhgelaaDoorFold01
import Derived.Laws.BytesString
import Derived.Deep.RegionWith
import Derived.Test.YtlpbffcijhgelaaDoorRows
import Derived.Lib.LaidTab
import Derived.Stop.LaidErr
import Derived.Test.YtlpbffcijhgelaaDoorFold00
namespace Go.Proofs.YtlpbffcijhgelaaDoor
open Go Go.RowKit
set_option linter.unusedVariables false
set_option linter.unusedSimpArgs false

set_option maxRecDepth 100000 in
theorem tz16 (w : World) (hc : w.cell? ⟨3, 15, none⟩ = some (.int .u8 4)) :
    Calls Tryd.prog 102 #[.int .u64 16] w fun e w' => e = .returned (.int .i64 4) ∧ w' = w := by
  have e1 : IntKind.u64.wrap (-16) = 18446744073709551600 := by decide
  have e2 : bits .and .u64 16 18446744073709551600 = 16 := by kernel_rfl
  have e3 : IntKind.u64.wrap (16 * 285870213051353865) = 4573923408821661840 := by decide
  have e4 : IntKind.u64.wrap 4573923408821661840 = 4573923408821661840 := by decide
  go_enter Tryd.func102, Tryd.ntmps102
  go_wp2
  go_ret
  exact ⟨rfl, rfl⟩

set_option maxRecDepth 100000 in
theorem tz (w : World) (hc : w.cell? ⟨3, 15, none⟩ = some (.int .u8 4)) :
    Calls Tryd.prog 100 #[.int .u64 16] w fun e w' => e = .returned (.int .i64 4) ∧ w' = w := by
  go_enter Tryd.func100, Tryd.ntmps100
  go_wp2_with fail
  refine (tz16 w hc).mono ?_
  rintro e w' ⟨rfl, rfl⟩
  go_wp2
  go_ret
  exact ⟨rfl, rfl⟩

set_option maxRecDepth 100000 in
theorem pow2 (w : World) : Calls Tryd.prog 99 #[.int .i64 16] w fun e w' => e = .returned (.bool true) ∧ w' = w := by
  go_enter Tryd.func99, Tryd.ntmps99
  go_wp2
  go_ret
  exact ⟨rfl, rfl⟩

end Go.Proofs.YtlpbffcijhgelaaDoor

namespace Go.Proofs.YtlpbffcijhgelaaDoor
open Go Go.RowKit
set_option linter.unusedVariables false
set_option linter.unusedSimpArgs false

theorem push_all : ∀ (zs : List Int) (s : ByteArray), zs.foldl (fun r n => r.push (UInt8.ofNat n.toNat)) s = ⟨s.data ++ (zs.map (fun z => UInt8.ofNat z.toNat)).toArray⟩
  | [], s => by simp
  | z :: r, s => by
    rw [List.foldl_cons, push_all r]
    simp [ByteArray.push]

theorem conv_str (W : World) (b o n c : Nat) (zs : List Int) (hn : zs.length = n) (hc : ∀ (j : Nat) z, zs[j]? = some z → W.cell? ⟨b, o + j, none⟩ = some (.int .u8 z)) :
    (convert 81 9 (.slice (some ⟨b, o, none⟩) n c)).run Tryd.prog W = .ok (.string ⟨(zs.map (fun z => UInt8.ofNat z.toNat)).toArray⟩) W := by
  rw [run_convert_bytes_string W _ _ _ _ _ _ Tryd.underlying81 Tryd.underlying5 Tryd.underlying9]
  have hl := run_loadCells_list (P := Tryd.prog) W ⟨b, o, none⟩ (zs.map (fun z => Value.int .u8 z)) (fun j v hj => by
    rw [Go.WideShapes.add_plain]
    rw [List.getElem?_map] at hj
    cases hz : zs[j]? with
    | none => simp [hz] at hj
    | some z => simp [hz] at hj; subst hj; exact hc j z hz)
  rw [List.length_map, hn] at hl
  rw [run_bytesToString W _ n c zs hl, push_all]
  simp

/-- The digit that counts k. -/
def hexd (k : Nat) : UInt8 := ((#[48, 49, 50, 51, 52, 53, 54, 55, 56, 57, 97, 98, 99, 100, 101, 102] : Array UInt8)[k]?).getD 0

theorem digits_at (k : Nat) (hk : k < 16) (h : k < (⟨#[48, 49, 50, 51, 52, 53, 54, 55, 56, 57, 97, 98, 99, 100, 101, 102, 103, 104, 105, 106, 107, 108, 109, 110, 111, 112, 113, 114, 115, 116, 117, 118, 119, 120, 121, 122]⟩ : ByteArray).size) :
    (⟨#[48, 49, 50, 51, 52, 53, 54, 55, 56, 57, 97, 98, 99, 100, 101, 102, 103, 104, 105, 106, 107, 108, 109, 110, 111, 112, 113, 114, 115, 116, 117, 118, 119, 120, 121, 122]⟩ : ByteArray)[k] = hexd k := by
  match k, hk with
  | 0, _ => rfl
  | 1, _ => rfl
  | 2, _ => rfl
  | 3, _ => rfl
  | 4, _ => rfl
  | 5, _ => rfl
  | 6, _ => rfl
  | 7, _ => rfl
  | 8, _ => rfl
  | 9, _ => rfl
  | 10, _ => rfl
  | 11, _ => rfl
  | 12, _ => rfl
  | 13, _ => rfl
  | 14, _ => rfl
  | 15, _ => rfl
  | n + 16, h => exact absurd h (by omega)

theorem and15 (x : Int) (h0 : 0 ≤ x) (h1 : x < 18446744073709551616) : bits .and .u64 x 15 = x % 16 := by
  rw [u64_and x 15 h0 h1 (by decide) (by decide)]
  have e : (x.toNat &&& (15 : Int).toNat) = x.toNat % 2 ^ 4 := by
    rw [show ((15 : Int).toNat) = 2 ^ 4 - 1 from rfl, Nat.and_two_pow_sub_one_eq_mod]
  rw [e]
  omega

set_option maxHeartbeats 4000000 in
set_option maxRecDepth 100000 in
theorem bits16_one (u : Int) (hu : 0 ≤ u ∧ u < 16) (w : World) (hc : w.cell? ⟨3, 15, none⟩ = some (.int .u8 4)) (hlt : 3 < w.heap.size) :
    Calls Tryd.prog 92 #[.slice none 0 0, .int .u64 u, .int .i64 16, .bool false, .bool false] w fun e w' => e = .returned (.tuple #[.slice none 0 0, .string ⟨#[hexd u.toNat]⟩]) ∧ Below w.heap.size w w' := by
  have ha : ∀ o, (w.alloc o).cell? ⟨3, 15, none⟩ = some (.int .u8 4) := fun o => (World.cell?_alloc_lt _ _ _ hlt).trans hc
  have hz65 : Tryd.zeroCells145.size = 65 := by kernel_rfl
  have q0 : decide (16 ≤ u) = false := by simp; omega
  go_enter Tryd.func92, Tryd.ntmps92
  go_wp2_with (first
    | (go_at_call 99; refine (pow2 _).mono ?_; rintro e w' ⟨rfl, rfl⟩)
    | (go_at_call 100; refine (tz _ (ha _)).mono ?_; rintro e w' ⟨rfl, rfl⟩))
  go_rounds 1
  all_goals
    rw [digits_at u.toNat (by omega)]
    rw [conv_str _ _ 64 1 1 [((hexd u.toNat).toNat : Int)] rfl (fun j z hj => by
      match j, hj with
      | 0, hj =>
        cases hj
        rw [World.cell?_alloc_new]
        simp [Array.getElem?_setIfInBounds, hz65]
      | n + 1, hj => simp at hj)]
    go_wp2
    go_ret2
    exact ⟨rfl, (Below.refl _ w).alloc (Nat.le_refl _) _⟩

set_option maxHeartbeats 4000000 in
set_option maxRecDepth 100000 in
theorem bits16_two (u : Int) (hu : 16 ≤ u ∧ u < 256) (w : World) (hc : w.cell? ⟨3, 15, none⟩ = some (.int .u8 4)) (hlt : 3 < w.heap.size) :
    Calls Tryd.prog 92 #[.slice none 0 0, .int .u64 u, .int .i64 16, .bool false, .bool false] w fun e w' => e = .returned (.tuple #[.slice none 0 0, .string ⟨#[hexd (u / 16).toNat, hexd (u % 16).toNat]⟩]) ∧ Below w.heap.size w w' := by
  have ha : ∀ o, (w.alloc o).cell? ⟨3, 15, none⟩ = some (.int .u8 4) := fun o => (World.cell?_alloc_lt _ _ _ hlt).trans hc
  have hz65 : Tryd.zeroCells145.size = 65 := by kernel_rfl
  have q0 : decide (16 ≤ u) = true := by simp; omega
  have n0 : bits .and .u64 u 15 = u % 16 := and15 _ (by omega) (by omega)
  have q1 : decide (16 ≤ u / 16) = false := by simp; omega
  go_enter Tryd.func92, Tryd.ntmps92
  go_wp2_with (first
    | (go_at_call 99; refine (pow2 _).mono ?_; rintro e w' ⟨rfl, rfl⟩)
    | (go_at_call 100; refine (tz _ (ha _)).mono ?_; rintro e w' ⟨rfl, rfl⟩))
  go_rounds 2
  all_goals
    rw [digits_at (u % 16).toNat (by omega)]
    rw [digits_at (u / 16).toNat (by omega)]
    rw [conv_str _ _ 63 2 2 [((hexd (u / 16).toNat).toNat : Int), ((hexd (u % 16).toNat).toNat : Int)] rfl (fun j z hj => by
      match j, hj with
      | 0, hj =>
        cases hj
        rw [World.cell?_alloc_new]
        simp [Array.getElem?_setIfInBounds, hz65]
      | 1, hj =>
        cases hj
        rw [World.cell?_alloc_new]
        simp [Array.getElem?_setIfInBounds, hz65]
      | n + 2, hj => simp at hj)]
    go_wp2
    go_ret2
    exact ⟨rfl, (Below.refl _ w).alloc (Nat.le_refl _) _⟩

set_option maxHeartbeats 4000000 in
set_option maxRecDepth 100000 in
theorem bits16_three (u : Int) (hu : 256 ≤ u ∧ u < 4096) (w : World) (hc : w.cell? ⟨3, 15, none⟩ = some (.int .u8 4)) (hlt : 3 < w.heap.size) :
    Calls Tryd.prog 92 #[.slice none 0 0, .int .u64 u, .int .i64 16, .bool false, .bool false] w fun e w' => e = .returned (.tuple #[.slice none 0 0, .string ⟨#[hexd ((u / 16) / 16).toNat, hexd ((u / 16) % 16).toNat, hexd (u % 16).toNat]⟩]) ∧ Below w.heap.size w w' := by
  have ha : ∀ o, (w.alloc o).cell? ⟨3, 15, none⟩ = some (.int .u8 4) := fun o => (World.cell?_alloc_lt _ _ _ hlt).trans hc
  have hz65 : Tryd.zeroCells145.size = 65 := by kernel_rfl
  have q0 : decide (16 ≤ u) = true := by simp; omega
  have n0 : bits .and .u64 u 15 = u % 16 := and15 _ (by omega) (by omega)
  have q1 : decide (16 ≤ u / 16) = true := by simp; omega
  have n1 : bits .and .u64 (u / 16) 15 = (u / 16) % 16 := and15 _ (by omega) (by omega)
  have q2 : decide (16 ≤ (u / 16) / 16) = false := by simp; omega
  go_enter Tryd.func92, Tryd.ntmps92
  go_wp2_with (first
    | (go_at_call 99; refine (pow2 _).mono ?_; rintro e w' ⟨rfl, rfl⟩)
    | (go_at_call 100; refine (tz _ (ha _)).mono ?_; rintro e w' ⟨rfl, rfl⟩))
  go_rounds 3
  all_goals
    rw [digits_at (u % 16).toNat (by omega)]
    rw [digits_at ((u / 16) % 16).toNat (by omega)]
    rw [digits_at ((u / 16) / 16).toNat (by omega)]
    rw [conv_str _ _ 62 3 3 [((hexd ((u / 16) / 16).toNat).toNat : Int), ((hexd ((u / 16) % 16).toNat).toNat : Int), ((hexd (u % 16).toNat).toNat : Int)] rfl (fun j z hj => by
      match j, hj with
      | 0, hj =>
        cases hj
        rw [World.cell?_alloc_new]
        simp [Array.getElem?_setIfInBounds, hz65]
      | 1, hj =>
        cases hj
        rw [World.cell?_alloc_new]
        simp [Array.getElem?_setIfInBounds, hz65]
      | 2, hj =>
        cases hj
        rw [World.cell?_alloc_new]
        simp [Array.getElem?_setIfInBounds, hz65]
      | n + 3, hj => simp at hj)]
    go_wp2
    go_ret2
    exact ⟨rfl, (Below.refl _ w).alloc (Nat.le_refl _) _⟩

set_option maxHeartbeats 4000000 in
set_option maxRecDepth 100000 in
theorem bits16_four (u : Int) (hu : 4096 ≤ u ∧ u < 65536) (w : World) (hc : w.cell? ⟨3, 15, none⟩ = some (.int .u8 4)) (hlt : 3 < w.heap.size) :
    Calls Tryd.prog 92 #[.slice none 0 0, .int .u64 u, .int .i64 16, .bool false, .bool false] w fun e w' => e = .returned (.tuple #[.slice none 0 0, .string ⟨#[hexd (((u / 16) / 16) / 16).toNat, hexd (((u / 16) / 16) % 16).toNat, hexd ((u / 16) % 16).toNat, hexd (u % 16).toNat]⟩]) ∧ Below w.heap.size w w' := by
  have ha : ∀ o, (w.alloc o).cell? ⟨3, 15, none⟩ = some (.int .u8 4) := fun o => (World.cell?_alloc_lt _ _ _ hlt).trans hc
  have hz65 : Tryd.zeroCells145.size = 65 := by kernel_rfl
  have q0 : decide (16 ≤ u) = true := by simp; omega
  have n0 : bits .and .u64 u 15 = u % 16 := and15 _ (by omega) (by omega)
  have q1 : decide (16 ≤ u / 16) = true := by simp; omega
  have n1 : bits .and .u64 (u / 16) 15 = (u / 16) % 16 := and15 _ (by omega) (by omega)
  have q2 : decide (16 ≤ (u / 16) / 16) = true := by simp; omega
  have n2 : bits .and .u64 ((u / 16) / 16) 15 = ((u / 16) / 16) % 16 := and15 _ (by omega) (by omega)
  have q3 : decide (16 ≤ ((u / 16) / 16) / 16) = false := by simp; omega
  go_enter Tryd.func92, Tryd.ntmps92
  go_wp2_with (first
    | (go_at_call 99; refine (pow2 _).mono ?_; rintro e w' ⟨rfl, rfl⟩)
    | (go_at_call 100; refine (tz _ (ha _)).mono ?_; rintro e w' ⟨rfl, rfl⟩))
  go_rounds 4
  all_goals
    rw [digits_at (u % 16).toNat (by omega)]
    rw [digits_at ((u / 16) % 16).toNat (by omega)]
    rw [digits_at (((u / 16) / 16) % 16).toNat (by omega)]
    rw [digits_at (((u / 16) / 16) / 16).toNat (by omega)]
    rw [conv_str _ _ 61 4 4 [((hexd (((u / 16) / 16) / 16).toNat).toNat : Int), ((hexd (((u / 16) / 16) % 16).toNat).toNat : Int), ((hexd ((u / 16) % 16).toNat).toNat : Int), ((hexd (u % 16).toNat).toNat : Int)] rfl (fun j z hj => by
      match j, hj with
      | 0, hj =>
        cases hj
        rw [World.cell?_alloc_new]
        simp [Array.getElem?_setIfInBounds, hz65]
      | 1, hj =>
        cases hj
        rw [World.cell?_alloc_new]
        simp [Array.getElem?_setIfInBounds, hz65]
      | 2, hj =>
        cases hj
        rw [World.cell?_alloc_new]
        simp [Array.getElem?_setIfInBounds, hz65]
      | 3, hj =>
        cases hj
        rw [World.cell?_alloc_new]
        simp [Array.getElem?_setIfInBounds, hz65]
      | n + 4, hj => simp at hj)]
    go_wp2
    go_ret2
    exact ⟨rfl, (Below.refl _ w).alloc (Nat.le_refl _) _⟩

end Go.Proofs.YtlpbffcijhgelaaDoor

namespace Go.Proofs.YtlpbffcijhgelaaDoor
open Go Go.RowKit
set_option linter.unusedVariables false
set_option linter.unusedSimpArgs false

/-- A number below 65536 in hex digits. -/
def hexText (u : Int) : List UInt8 :=
  if u < 16 then [hexd u.toNat] else if u < 256 then [hexd (u / 16).toNat, hexd (u % 16).toNat]
  else if u < 4096 then [hexd (u / 16 / 16).toNat, hexd (u / 16 % 16).toNat, hexd (u % 16).toNat]
  else [hexd (u / 16 / 16 / 16).toNat, hexd (u / 16 / 16 % 16).toNat, hexd (u / 16 % 16).toNat, hexd (u % 16).toNat]

theorem bits16 (u : Int) (hu : 0 ≤ u ∧ u < 65536) (w : World) (hc : w.cell? ⟨3, 15, none⟩ = some (.int .u8 4)) (hlt : 3 < w.heap.size) :
    Calls Tryd.prog 92 #[.slice none 0 0, .int .u64 u, .int .i64 16, .bool false, .bool false] w fun e w' => e = .returned (.tuple #[.slice none 0 0, .string ⟨(hexText u).toArray⟩]) ∧ Below w.heap.size w w' := by
  unfold hexText
  split
  · exact bits16_one u (by omega) w hc hlt
  · split
    · exact bits16_two u (by omega) w hc hlt
    · split
      · exact bits16_three u (by omega) w hc hlt
      · exact bits16_four u (by omega) w hc hlt

set_option maxRecDepth 100000 in
theorem uint16_in (u : Int) (hu : 0 ≤ u ∧ u < 65536) (w : World) (hc : w.cell? ⟨3, 15, none⟩ = some (.int .u8 4)) (hlt : 3 < w.heap.size) :
    Calls Tryd.prog 88 #[.int .u64 u, .int .i64 16] w fun e w' => e = .returned (.string ⟨(hexText u).toArray⟩) ∧ Below w.heap.size w w' := by
  have hC := bits16 u hu w hc hlt
  generalize hexText u = t at hC ⊢
  go_enter Tryd.func88, Tryd.ntmps88
  go_wp2_with fail
  refine hC.mono ?_
  rintro e w' ⟨rfl, hb⟩
  go_wp2
  go_ret
  exact ⟨rfl, hb⟩

set_option maxRecDepth 100000 in
theorem uint16_calls (u : Int) (hu : 0 ≤ u ∧ u < 65536) (w : World) (hc : w.cell? ⟨3, 15, none⟩ = some (.int .u8 4)) (hlt : 3 < w.heap.size) :
    Calls Tryd.prog 80 #[.int .u64 u, .int .i64 16] w fun e w' => e = .returned (.string ⟨(hexText u).toArray⟩) ∧ Below w.heap.size w w' := by
  have hC := uint16_in u hu w hc hlt
  generalize hexText u = t at hC ⊢
  go_enter Tryd.func80, Tryd.ntmps80
  go_wp2_with fail
  refine hC.mono ?_
  rintro e w' ⟨rfl, hb⟩
  go_wp2
  go_ret
  exact ⟨rfl, hb⟩

set_option maxHeartbeats 4000000 in
set_option maxRecDepth 100000 in
theorem groups_known (w : World) : Calls Tryd.prog 59 #[.agg #[.int .u8 32, .int .u8 1, .int .u8 13, .int .u8 184, .int .u8 0, .int .u8 0, .int .u8 0, .int .u8 0, .int .u8 0, .int .u8 0, .int .u8 0, .int .u8 0, .int .u8 0, .int .u8 0, .int .u8 0, .int .u8 1]] w fun e w' => e = .returned (.agg #[.int .u16 8193, .int .u16 3512, .int .u16 0, .int .u16 0, .int .u16 0, .int .u16 0, .int .u16 0, .int .u16 1]) ∧ Below w.heap.size w w' := by
  go_enter Tryd.func59, Tryd.ntmps59
  go_wp2
  refine wp_loop_rounds 9 ?_
  iterate 8 (rw [rounds_succ]; go_wp2; go_region; go_wp2)
  rw [rounds_succ]
  go_wp2
  go_returns
  refine ⟨by kernel_rfl, ?_⟩
  go_grown

set_option maxHeartbeats 4000000 in
set_option maxRecDepth 100000 in
theorem hexes_calls (zs : List Int) (hz : ∀ z ∈ zs, 0 ≤ z ∧ z < 65536) (hl : zs.length ≤ 8) (b o c : Nat) (w : World) (ht : ∀ w', Below w.heap.size w w' → w'.cell? ⟨3, 15, none⟩ = some (.int .u8 4)) (hlt : 3 < w.heap.size) (hb : b < w.heap.size)
    (hcell : ∀ (j : Nat) z, zs[j]? = some z → w.cell? ⟨b, o + j, none⟩ = some (.int .u16 z)) :
    Calls Tryd.prog 61 #[.slice (some ⟨b, o, none⟩) zs.length c] w fun e w' => e = .returned (.string ⟨(Lib.join (zs.map hexText) [58]).toArray⟩) ∧ Below w.heap.size w w' := by
  have HT : Hid _ := ht
  have HC : Hid _ := hcell
  have HZ : Hid _ := hz
  clear ht hcell hz
  obtain ⟨n, hn⟩ : ∃ n, n = zs.length := ⟨_, rfl⟩
  rw [← hn] at hl ⊢
  have HN : Hid _ := hn
  clear hn
  go_enter Tryd.func61, Tryd.ntmps61
  go_wp2_with fail
  go_loopw [3, 8] (fun v3 v8 wr => ∃ (k : Nat), v8 = .int .i64 k ∧ k ≤ n ∧ Strs w ((zs.take k).map hexText) v3 wr) (fun _ v8 _ => n - (intOf v8).toNat)
  case atStart => exact ⟨0, rfl, by omega, ⟨World.ownsRow_nil _ _ _ _, Below.refl _ _⟩⟩
  case round =>
    obtain ⟨k, rfl, hk, hS⟩ := hrel
    by_cases hkn : k < n
    · have hN := HN.out
      have hzk := HZ.out zs[k] (List.getElem_mem _)
      have hck := (hS.below.cell (p := ⟨b, o + k, none⟩) hb).trans (HC.out k zs[k] (by simp [show k < zs.length by omega]))
      have hS2 : Strs w ((zs.take k).map hexText ++ [hexText zs[k]]) u3 wr → True := fun _ => trivial
      have htake : (zs.take (k + 1)).map hexText = (zs.take k).map hexText ++ [hexText zs[k]] := by
        rw [List.take_add_one, List.getElem?_eq_getElem (by omega), List.map_append]
        rfl
      generalize zs[k] = z at hzk hck htake
      clear hN hS2
      have hC := uint16_calls z hzk wr (HT.out wr hS.below) (Nat.lt_of_lt_of_le hlt hS.below.size)
      go_wp2_with fail
      refine hC.mono ?_
      rintro e W1 ⟨rfl, hbb⟩
      clear hC
      have hlk : ((zs.take k).map hexText).length ≤ 1000 := by simp; omega
      obtain ⟨v', X', hrun, hS'⟩ := (hS.kept hbb).add (hexText z) hlk 76
      have HR : Hid _ := hrun
      clear hrun
      go_wp2_with (at_builtin; refine wpList_append_run rfl _ _ _ _ rfl rfl rfl HR.out ?_; clear HR)
      rw [← htake] at hS'
      refine ⟨⟨k + 1, by simp, by omega, hS'⟩, by simp [intOf]; omega⟩
    · have hN := HN.out
      have hall : zs.take k = zs := List.take_of_length_le (by omega)
      rw [hall] at hS
      have hC := hS.join 58 (by simp; omega) (fun x hx => by
        simp at hx
        obtain ⟨z, hz, rfl⟩ := hx
        unfold hexText
        split
        · simp
        · split
          · simp
          · split <;> simp)
      clear hN
      go_wp2_with fail
      refine hC.mono ?_
      rintro e W1 ⟨rfl, hbb⟩
      go_wp2
      go_ret
      exact ⟨rfl, hS.below.trans (hbb.mono hS.below.size)⟩

set_option maxHeartbeats 4000000 in
set_option maxRecDepth 100000 in
theorem gap_known (b : Nat) (w : World) (c0 : w.cell? ⟨b, 0, none⟩ = some (.int .u16 8193)) (c1 : w.cell? ⟨b, 1, none⟩ = some (.int .u16 3512)) (c2 : w.cell? ⟨b, 2, none⟩ = some (.int .u16 0)) (c3 : w.cell? ⟨b, 3, none⟩ = some (.int .u16 0))
    (c4 : w.cell? ⟨b, 4, none⟩ = some (.int .u16 0)) (c5 : w.cell? ⟨b, 5, none⟩ = some (.int .u16 0)) (c6 : w.cell? ⟨b, 6, none⟩ = some (.int .u16 0)) (c7 : w.cell? ⟨b, 7, none⟩ = some (.int .u16 1)) :
    Calls Tryd.prog 60 #[.slice (some ⟨b, 0, none⟩) 8 8] w fun e w' => e = .returned (.tuple #[.int .i64 2, .int .i64 7]) ∧ w' = w := by
  go_enter Tryd.func60, Tryd.ntmps60
  go_wp2
  go_rounds 9
  all_goals go_ret2
  all_goals exact ⟨rfl, rfl⟩

end Go.Proofs.YtlpbffcijhgelaaDoor

namespace Go.Proofs.YtlpbffcijhgelaaDoor
open Go Go.RowKit
set_option linter.unusedVariables false
set_option linter.unusedSimpArgs false

/-- The table of trailing zeros, whatever is laid above. -/
def Tz (w : World) : Prop := 3 < w.heap.size ∧ ∀ w', Below w.heap.size w w' → w'.cell? ⟨3, 15, none⟩ = some (.int .u8 4)

theorem Tz.on {w w' : World} (h : Tz w) (hb : Below w.heap.size w w') : Tz w' := ⟨Nat.lt_of_lt_of_le h.1 hb.size, fun x hx => h.2 x (hb.trans (hx.mono hb.size))⟩

theorem hexA (b c : Nat) (w : World) (ht : Tz w) (hb : b < w.heap.size) (c0 : w.cell? ⟨b, 0, none⟩ = some (.int .u16 8193)) (c1 : w.cell? ⟨b, 1, none⟩ = some (.int .u16 3512)) :
    Calls Tryd.prog 61 #[.slice (some ⟨b, 0, none⟩) 2 c] w fun e w' => e = .returned (.string ⟨#[50, 48, 48, 49, 58, 100, 98, 56]⟩) ∧ Below w.heap.size w w' := by
  have h := hexes_calls [8193, 3512] (by decide) (by decide) b 0 c w ht.2 ht.1 hb (fun j z hj => by
    match j, hj with
    | 0, hj => cases hj; exact c0
    | 1, hj => cases hj; exact c1
    | n + 2, hj => simp at hj)
  have e : Lib.join (([8193, 3512] : List Int).map hexText) [58] = [50, 48, 48, 49, 58, 100, 98, 56] := by kernel_rfl
  rw [e] at h
  exact h

theorem hexB (b c : Nat) (w : World) (ht : Tz w) (hb : b < w.heap.size) (c7 : w.cell? ⟨b, 7, none⟩ = some (.int .u16 1)) :
    Calls Tryd.prog 61 #[.slice (some ⟨b, 7, none⟩) 1 c] w fun e w' => e = .returned (.string ⟨#[49]⟩) ∧ Below w.heap.size w w' := by
  have h := hexes_calls [1] (by decide) (by decide) b 7 c w ht.2 ht.1 hb (fun j z hj => by
    match j, hj with
    | 0, hj => cases hj; exact c7
    | n + 1, hj => simp at hj)
  have e : Lib.join (([1] : List Int).map hexText) [58] = [49] := by kernel_rfl
  rw [e] at h
  exact h

def known6V : Value := .agg #[.int .u8 32, .int .u8 1, .int .u8 13, .int .u8 184, .int .u8 0, .int .u8 0, .int .u8 0, .int .u8 0, .int .u8 0, .int .u8 0, .int .u8 0, .int .u8 0, .int .u8 0, .int .u8 0, .int .u8 0, .int .u8 1]

set_option maxHeartbeats 2000000 in
set_option maxRecDepth 100000 in
theorem text6_known (w : World) (ht : Tz w) : Calls Tryd.prog 20 #[known6V] w fun e w' => e = .returned (.string ⟨#[50, 48, 48, 49, 58, 100, 98, 56, 58, 58, 49]⟩) ∧ Below w.heap.size w w' := by
  unfold known6V
  have HT : Hid _ := ht
  clear ht
  go_enter Tryd.func20, Tryd.ntmps20
  go_wp2_with fail
  refine (groups_known _).mono ?_
  rintro e w1 ⟨rfl, hB1⟩
  have h0 := (Below.refl w.heap.size w).alloc (Nat.le_refl _) (.cells #[.int .u8 32, .int .u8 1, .int .u8 13, .int .u8 184, .int .u8 0, .int .u8 0, .int .u8 0, .int .u8 0, .int .u8 0, .int .u8 0, .int .u8 0, .int .u8 0, .int .u8 0, .int .u8 0, .int .u8 0, .int .u8 1] 31)
  have hB := h0.trans (hB1.mono h0.size)
  clear h0 hB1
  go_wp2_with fail
  have hB2 := hB.alloc hB.size (.cells #[.int .u16 8193, .int .u16 3512, .int .u16 0, .int .u16 0, .int .u16 0, .int .u16 0, .int .u16 0, .int .u16 1] 94)
  have hg : w1.heap.size < (w1.alloc (.cells #[.int .u16 8193, .int .u16 3512, .int .u16 0, .int .u16 0, .int .u16 0, .int .u16 0, .int .u16 0, .int .u16 1] 94)).heap.size := by simp
  have hc : ∀ j v, (#[Value.int .u16 8193, .int .u16 3512, .int .u16 0, .int .u16 0, .int .u16 0, .int .u16 0, .int .u16 0, .int .u16 1] : Array Value)[j]? = some v → (w1.alloc (.cells #[.int .u16 8193, .int .u16 3512, .int .u16 0, .int .u16 0, .int .u16 0, .int .u16 0, .int .u16 0, .int .u16 1] 94)).cell? ⟨w1.heap.size, j, none⟩ = some v := by
    intro j v hj
    rw [World.cell?_alloc_new]
    simpa using hj
  generalize w1.alloc (.cells #[.int .u16 8193, .int .u16 3512, .int .u16 0, .int .u16 0, .int .u16 0, .int .u16 0, .int .u16 0, .int .u16 1] 94) = w2 at *
  generalize w1.heap.size = g at *
  have c0 := hc 0 _ rfl
  have c1 := hc 1 _ rfl
  have c7 := hc 7 _ rfl
  have hgap := gap_known g w2 c0 c1 (hc 2 _ rfl) (hc 3 _ rfl) (hc 4 _ rfl) (hc 5 _ rfl) (hc 6 _ rfl) c7
  have hTz : Tz w2 := Tz.on HT.out hB2
  have hA : ∀ W, Below w2.heap.size w2 W → Calls Tryd.prog 61 #[.slice (some ⟨g, 0, none⟩) 2 8] W fun e w' => e = .returned (.string ⟨#[50, 48, 48, 49, 58, 100, 98, 56]⟩) ∧ Below W.heap.size W w' := fun W hW =>
    hexA g 8 W (hTz.on hW) (Nat.lt_of_lt_of_le hg hW.size) ((hW.cell (p := ⟨g, 0, none⟩) hg).trans c0) ((hW.cell (p := ⟨g, 1, none⟩) hg).trans c1)
  have hD : ∀ W, Below w2.heap.size w2 W → Calls Tryd.prog 61 #[.slice (some ⟨g, 7, none⟩) 1 1] W fun e w' => e = .returned (.string ⟨#[49]⟩) ∧ Below W.heap.size W w' := fun W hW =>
    hexB g 1 W (hTz.on hW) (Nat.lt_of_lt_of_le hg hW.size) ((hW.cell (p := ⟨g, 7, none⟩) hg).trans c7)
  have HG : Hid _ := hgap
  have HA : Hid _ := hA
  have HD : Hid _ := hD
  clear hc c0 c1 c7 hgap hTz hA hD hg hB
  refine Calls.mono HG.out ?_
  rintro e w3 ⟨rfl, rfl⟩
  go_wp2_with fail
  go_region_with (first
    | (go_at_call_of 61 (Value.slice (some { block := g, off := 0 }) 2 8); refine Calls.mono (HA.out _ ?_) ?_; (first | exact BB | exact (Below.refl _ _).drew); rintro e wa ⟨rfl, hBa⟩; (first | have BC := BB.trans (hBa.mono BB.size) | have BB := ((Below.refl _ _).drew).trans hBa))
    | (go_at_call_of 61 (Value.slice (some { block := g, off := 7 }) 1 1); refine Calls.mono (HD.out _ ?_) ?_; (first | exact BB | exact (Below.refl _ _).drew); rintro e wb ⟨rfl, hBb⟩; (first | have BC := BB.trans (hBb.mono BB.size) | have BB := ((Below.refl _ _).drew).trans hBb)))
  all_goals
    go_wp2
    go_ret
    exact ⟨rfl, hB2.trans (BC.mono hB2.size)⟩

end Go.Proofs.YtlpbffcijhgelaaDoor

namespace Go.Proofs.YtlpbffcijhgelaaDoor
open Go Go.RowKit
set_option linter.unusedVariables false

def tab64 : List Int := [0, 1, 56, 2, 57, 49, 28, 3, 61, 58, 42, 50, 38, 29, 17, 4, 62, 47, 59, 36, 45, 43, 51, 22, 53, 39, 33, 30, 24, 18, 12, 5, 63, 55, 48, 27, 60, 41, 37, 16, 46, 35, 44, 21, 52, 32, 23, 11, 54, 26, 40, 15, 34, 20, 31, 10, 25, 14, 19, 9, 13, 8, 7, 6]

theorem g64 : Tryd.prog.globalNamed "math/bits.deBruijn64tab" = some 3 := by kernel_rfl
theorem g64t : (Tryd.prog.globals[3]?).map (·.type) = some 150 := by kernel_rfl
theorem gpow : Tryd.prog.globalNamed "internal/strconv.uint64pow10" = some 0 := by kernel_rfl
theorem gpowt : (Tryd.prog.globals[0]?).map (·.type) = some 143 := by kernel_rfl

theorem tab_below {n : String} {g : Nat} {k : IntKind} {zs : List Int} {w w' : World} (hg : Tryd.prog.globalNamed n = some g) (h : Lib.TabIs Tryd.prog w n k zs) (hb : Below w.heap.size w w') : Lib.TabIs Tryd.prog w' n k zs := by
  unfold Lib.TabIs World.var? at *
  rw [hg] at h ⊢
  simp only [Option.bind_some] at h ⊢
  cases hw : w.heap[g]? with
  | none => rw [hw] at h; simp at h
  | some o =>
    rw [hw] at h
    rw [hb.block g (Array.getElem?_eq_some_iff.1 hw).1, hw]
    exact h

theorem tab_size {n : String} {g : Nat} {k : IntKind} {zs : List Int} {w : World} (hg : Tryd.prog.globalNamed n = some g) (h : Lib.TabIs Tryd.prog w n k zs) : g < w.heap.size := by
  unfold Lib.TabIs World.var? at h
  rw [hg] at h
  simp only [Option.bind_some] at h
  cases hw : w.heap[g]? with
  | none => rw [hw] at h; simp at h
  | some o => exact (Array.getElem?_eq_some_iff.1 hw).1

theorem tables {W : World} (h : laidMetH Tryd.prog [("math/bits.deBruijn32tab", Rows.laid_math_bits_deBruijn32tab), ("math/bits.deBruijn64tab", Rows.laid_math_bits_deBruijn64tab), ("internal/strconv.uint64pow10", Rows.laid_internal_strconv_uint64pow10)] W) : Tabs W ∧ Tz W := by
  have h1 : laidMet Tryd.prog [("math/bits.deBruijn32tab", Rows.laid_math_bits_deBruijn32tab), ("math/bits.deBruijn64tab", Rows.laid_math_bits_deBruijn64tab), ("internal/strconv.uint64pow10", Rows.laid_internal_strconv_uint64pow10)] W := h
  have h2 := h1.tail
  have h3 := h2.tail
  have t64 : Lib.TabIs Tryd.prog W "math/bits.deBruijn64tab" .u8 tab64 := Lib.tabIs_of_head (zs := tab64) g64 g64t Tryd.underlying150 Tryd.underlying5 (by kernel_rfl) (by kernel_rfl) h2
  have tp : Lib.TabIs Tryd.prog W "internal/strconv.uint64pow10" .u64 Lib.pow10Tab := Lib.tabIs_of_head (zs := Lib.pow10Tab) gpow gpowt Tryd.underlying143 Tryd.underlying128 (by kernel_rfl) (by kernel_rfl) h3
  exact ⟨fun w' hb => tab_below gpow tp hb, tab_size g64 t64, fun w' hb => (tab_below g64 t64 hb).cell g64 15 (by decide)⟩

end Go.Proofs.YtlpbffcijhgelaaDoor

namespace Go.Proofs.YtlpbffcijhgelaaDoor
open Go Go.RowKit
set_option linter.unusedVariables false
set_option linter.unusedSimpArgs false

theorem p6_known (w : World) : Calls Tryd.prog 18 #[.string ⟨#[50, 48, 48, 49, 58, 68, 66, 56, 58, 58, 49]⟩] w fun e w' => e = .returned (.tuple #[.agg #[.int .u8 32, .int .u8 1, .int .u8 13, .int .u8 184, .int .u8 0, .int .u8 0, .int .u8 0, .int .u8 0, .int .u8 0, .int .u8 0, .int .u8 0, .int .u8 0, .int .u8 0, .int .u8 0, .int .u8 0, .int .u8 1], .int .i64 0, .int .i64 0]) ∧ Below w.heap.size w w' := by
  have h := parse6_calls ⟨#[50, 48, 48, 49, 58, 68, 66, 56, 58, 58, 49]⟩ (by decide) w
  have e : parse6 (ByteArray.mk #[50, 48, 48, 49, 58, 68, 66, 56, 58, 58, 49]).data.toList = ([32, 1, 13, 184, 0, 0, 0, 0, 0, 0, 0, 0, 0, 0, 0, 1], 0, 0) := known6
  rw [e] at h
  exact h
theorem p4_known (w : World) : Calls Tryd.prog 13 #[.string ⟨#[49, 57, 50, 46, 48, 46, 50, 46, 49]⟩] w fun e w' => e = .returned (.tuple #[.agg #[.int .u8 192, .int .u8 0, .int .u8 2, .int .u8 1], .int .i64 0, .int .i64 0]) ∧ Below w.heap.size w w' := by
  have h := parse4_calls ⟨#[49, 57, 50, 46, 48, 46, 50, 46, 49]⟩ (by decide) w
  have e : parse4 (ByteArray.mk #[49, 57, 50, 46, 48, 46, 50, 46, 49]).data.toList = ([192, 0, 2, 1], 0, 0) := known4
  rw [e] at h
  exact h
theorem t4_known (w : World) (ht : Tabs w) : Calls Tryd.prog 15 #[.agg #[.int .u8 192, .int .u8 0, .int .u8 2, .int .u8 1]] w fun e w' => e = .returned (.string ⟨#[49, 57, 50, 46, 48, 46, 50, 46, 49]⟩) ∧ Below w.heap.size w w' := by
  have h := text4_calls 192 0 2 1 (by unfold Byte; omega) (by unfold Byte; omega) (by unfold Byte; omega) (by unfold Byte; omega) w ht
  have e : text4 [192, 0, 2, 1] = [49, 57, 50, 46, 48, 46, 50, 46, 49] := by kernel_rfl
  rw [e] at h
  exact h

theorem Tabs.on {w w' : World} (h : Tabs w) (hb : Below w.heap.size w w') : Tabs w' := fun x hx => h x (hb.trans (hx.mono hb.size))

set_option maxHeartbeats 2000000 in
set_option maxRecDepth 100000 in
theorem awake_calls (w : World) (ht : Tabs w ∧ Tz w) : Calls Tryd.prog 17 #[] w fun e w' => e = .returned (.bool true) ∧ Below w.heap.size w w' := by
  have HT : Hid _ := ht
  clear ht
  go_enter Tryd.func17, Tryd.ntmps17
  go_wp2_with fail
  refine (p6_known w).mono ?_
  rintro e w1 ⟨rfl, hB1⟩
  go_wp2_with fail
  have hB2 := hB1.alloc hB1.size (.cells #[.int .u8 32, .int .u8 1, .int .u8 13, .int .u8 184, .int .u8 0, .int .u8 0, .int .u8 0, .int .u8 0, .int .u8 0, .int .u8 0, .int .u8 0, .int .u8 0, .int .u8 0, .int .u8 0, .int .u8 0, .int .u8 1] 31)
  have hg6 : w1.heap.size < (w1.alloc (.cells #[.int .u8 32, .int .u8 1, .int .u8 13, .int .u8 184, .int .u8 0, .int .u8 0, .int .u8 0, .int .u8 0, .int .u8 0, .int .u8 0, .int .u8 0, .int .u8 0, .int .u8 0, .int .u8 0, .int .u8 0, .int .u8 1] 31)).heap.size := by simp
  have hc6 : ∀ j v, (#[Value.int .u8 32, Value.int .u8 1, Value.int .u8 13, Value.int .u8 184, Value.int .u8 0, Value.int .u8 0, Value.int .u8 0, Value.int .u8 0, Value.int .u8 0, Value.int .u8 0, Value.int .u8 0, Value.int .u8 0, Value.int .u8 0, Value.int .u8 0, Value.int .u8 0, Value.int .u8 1] : Array Value)[j]? = some v → (w1.alloc (.cells #[.int .u8 32, .int .u8 1, .int .u8 13, .int .u8 184, .int .u8 0, .int .u8 0, .int .u8 0, .int .u8 0, .int .u8 0, .int .u8 0, .int .u8 0, .int .u8 0, .int .u8 0, .int .u8 0, .int .u8 0, .int .u8 1] 31)).cell? ⟨w1.heap.size, j, none⟩ = some v := by
    intro j v hj
    rw [World.cell?_alloc_new]
    simpa using hj
  generalize w1.alloc (.cells #[.int .u8 32, .int .u8 1, .int .u8 13, .int .u8 184, .int .u8 0, .int .u8 0, .int .u8 0, .int .u8 0, .int .u8 0, .int .u8 0, .int .u8 0, .int .u8 0, .int .u8 0, .int .u8 0, .int .u8 0, .int .u8 1] 31) = w2 at *
  generalize w1.heap.size = g6 at *
  refine (p4_known w2).mono ?_
  rintro e w3 ⟨rfl, hB3⟩
  have HC6 : Hid _ := hc6
  clear hc6 hB1
  have hst : ∀ (K : World), K = w3.alloc (.cells #[.int .u8 192, .int .u8 0, .int .u8 2, .int .u8 1] 23) → True := fun _ _ => trivial
  have hB4' := hB3.alloc hB3.size (.cells #[.int .u8 192, .int .u8 0, .int .u8 2, .int .u8 1] 23)
  have hc4 : ∀ j v, (#[Value.int .u8 192, Value.int .u8 0, Value.int .u8 2, Value.int .u8 1] : Array Value)[j]? = some v → (w3.alloc (.cells #[.int .u8 192, .int .u8 0, .int .u8 2, .int .u8 1] 23)).cell? ⟨w3.heap.size, j, none⟩ = some v := by
    intro j v hj
    rw [World.cell?_alloc_new]
    simpa using hj
  have hc6 := HC6.out
  obtain ⟨w4, hw4⟩ : ∃ w4, w4 = w3.alloc (.cells #[.int .u8 192, .int .u8 0, .int .u8 2, .int .u8 1] 23) := ⟨_, rfl⟩
  obtain ⟨g4, hg4⟩ : ∃ g4, g4 = w3.heap.size := ⟨_, rfl⟩
  rw [← hw4, ← hg4] at hc4
  rw [← hw4] at hB4'
  have k0 : w4.cell? ⟨g6, 0, none⟩ = some (.int .u8 32) := (hB4'.cell (p := ⟨g6, 0, none⟩) hg6).trans (hc6 0 _ rfl)
  have k1 : w4.cell? ⟨g6, 1, none⟩ = some (.int .u8 1) := (hB4'.cell (p := ⟨g6, 1, none⟩) hg6).trans (hc6 1 _ rfl)
  have k2 : w4.cell? ⟨g6, 2, none⟩ = some (.int .u8 13) := (hB4'.cell (p := ⟨g6, 2, none⟩) hg6).trans (hc6 2 _ rfl)
  have k3 : w4.cell? ⟨g6, 3, none⟩ = some (.int .u8 184) := (hB4'.cell (p := ⟨g6, 3, none⟩) hg6).trans (hc6 3 _ rfl)
  have k4 : w4.cell? ⟨g6, 4, none⟩ = some (.int .u8 0) := (hB4'.cell (p := ⟨g6, 4, none⟩) hg6).trans (hc6 4 _ rfl)
  have k5 : w4.cell? ⟨g6, 5, none⟩ = some (.int .u8 0) := (hB4'.cell (p := ⟨g6, 5, none⟩) hg6).trans (hc6 5 _ rfl)
  have k6 : w4.cell? ⟨g6, 6, none⟩ = some (.int .u8 0) := (hB4'.cell (p := ⟨g6, 6, none⟩) hg6).trans (hc6 6 _ rfl)
  have k7 : w4.cell? ⟨g6, 7, none⟩ = some (.int .u8 0) := (hB4'.cell (p := ⟨g6, 7, none⟩) hg6).trans (hc6 7 _ rfl)
  have k8 : w4.cell? ⟨g6, 8, none⟩ = some (.int .u8 0) := (hB4'.cell (p := ⟨g6, 8, none⟩) hg6).trans (hc6 8 _ rfl)
  have k9 : w4.cell? ⟨g6, 9, none⟩ = some (.int .u8 0) := (hB4'.cell (p := ⟨g6, 9, none⟩) hg6).trans (hc6 9 _ rfl)
  have k10 : w4.cell? ⟨g6, 10, none⟩ = some (.int .u8 0) := (hB4'.cell (p := ⟨g6, 10, none⟩) hg6).trans (hc6 10 _ rfl)
  have k11 : w4.cell? ⟨g6, 11, none⟩ = some (.int .u8 0) := (hB4'.cell (p := ⟨g6, 11, none⟩) hg6).trans (hc6 11 _ rfl)
  have k12 : w4.cell? ⟨g6, 12, none⟩ = some (.int .u8 0) := (hB4'.cell (p := ⟨g6, 12, none⟩) hg6).trans (hc6 12 _ rfl)
  have k13 : w4.cell? ⟨g6, 13, none⟩ = some (.int .u8 0) := (hB4'.cell (p := ⟨g6, 13, none⟩) hg6).trans (hc6 13 _ rfl)
  have k14 : w4.cell? ⟨g6, 14, none⟩ = some (.int .u8 0) := (hB4'.cell (p := ⟨g6, 14, none⟩) hg6).trans (hc6 14 _ rfl)
  have k15 : w4.cell? ⟨g6, 15, none⟩ = some (.int .u8 1) := (hB4'.cell (p := ⟨g6, 15, none⟩) hg6).trans (hc6 15 _ rfl)
  have f0 : w4.cell? ⟨g4, 0, none⟩ = some (.int .u8 192) := hc4 0 _ rfl
  have f1 : w4.cell? ⟨g4, 1, none⟩ = some (.int .u8 0) := hc4 1 _ rfl
  have f2 : w4.cell? ⟨g4, 2, none⟩ = some (.int .u8 2) := hc4 2 _ rfl
  have f3 : w4.cell? ⟨g4, 3, none⟩ = some (.int .u8 1) := hc4 3 _ rfl
  have hBw := hB2.trans (hB4'.mono hB2.size)
  have q0 := fun j => (w3.alloc (.cells #[.int .u8 192, .int .u8 0, .int .u8 2, .int .u8 1] 23)).cell? ⟨g6, j, none⟩
  rw [hw4] at k0 k1 k2 k3 k4 k5 k6 k7 k8 k9 k10 k11 k12 k13 k14 k15
  rw [hw4, hg4] at f0 f1 f2 f3
  have HW : Hid _ := hBw
  have HW4 : Hid _ := hw4
  clear hc4 hc6 HC6 hst hB2 hB3 hB4' q0 hBw hw4 hg4 hg6
  have hsz : w3.heap.size < (w3.alloc (.cells #[.int .u8 192, .int .u8 0, .int .u8 2, .int .u8 1] 23)).heap.size := by simp
  have hBw : Below w.heap.size w (w3.alloc (.cells #[.int .u8 192, .int .u8 0, .int .u8 2, .int .u8 1] 23)) := by rw [← HW4.out]; exact HW.out
  have h6 := text6_known (w3.alloc (.cells #[.int .u8 192, .int .u8 0, .int .u8 2, .int .u8 1] 23)) (Tz.on HT.out.2 hBw)
  unfold known6V at h6
  have H6 : Hid _ := h6
  have HBW : Hid _ := hBw
  clear h6 hBw
  go_wp2_with fail
  refine Calls.mono H6.out ?_
  rintro e w5 ⟨rfl, hB5⟩
  have e0 := (hB5.cell (p := ⟨w3.heap.size, 0, none⟩) hsz).trans f0
  have e1 := (hB5.cell (p := ⟨w3.heap.size, 1, none⟩) hsz).trans f1
  have e2 := (hB5.cell (p := ⟨w3.heap.size, 2, none⟩) hsz).trans f2
  have e3 := (hB5.cell (p := ⟨w3.heap.size, 3, none⟩) hsz).trans f3
  have hB6 := HBW.out.trans (hB5.mono HBW.out.size)
  have ht4 := t4_known w5 (Tabs.on HT.out.1 hB6)
  have HT4 : Hid _ := ht4
  clear k0 k1 k2 k3 k4 k5 k6 k7 k8 k9 k10 k11 k12 k13 k14 k15 f0 f1 f2 f3 hB5 H6 hsz HW HBW ht4
  go_wp2_with fail
  refine Calls.mono HT4.out ?_
  rintro e w6 ⟨rfl, hB7⟩
  go_wp2
  go_ret
  exact ⟨rfl, hB6.trans (hB7.mono hB6.size)⟩

end Go.Proofs.YtlpbffcijhgelaaDoor
