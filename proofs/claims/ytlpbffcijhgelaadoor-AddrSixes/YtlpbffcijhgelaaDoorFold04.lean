/-
  Numbers below 65536 in hex digits.
  Numbers below 65536 in hex digits: formatBits.
  The own text of one known address.
-/
import Derived.Test.YtlpbffcijhgelaaDoorFold03
import Derived.Laws.BytesString
namespace Go.Proofs.YtlpbffcijhgelaaDoor
open Go Go.RowKit
set_option linter.unusedVariables false
set_option linter.unusedSimpArgs false

set_option maxRecDepth 100000 in
theorem tz16 (w : World) (hc : w.cell? ⟨3, 15, none⟩ = some (.int .u8 4)) :
    Calls Tryd.prog 102 #[.int .u64 16] w fun e w' => e = .returned (.int .i64 4) ∧ w' = w := by
  have e1 : IntKind.u64.wrap (-16) = 18446744073709551600 := by decide
  have e2 : bits .and .u64 16 18446744073709551600 = 16 := by kernel_rfl
  have e3 : IntKind.u64.wrap (16 * 285870213051353865) = 4573923408821661840 := by decide
  have e4 : IntKind.u64.wrap 4573923408821661840 = 4573923408821661840 := by decide
  go_enter Tryd.func102, Tryd.ntmps102
  go_wp2
  go_ret
  exact ⟨rfl, rfl⟩

set_option maxRecDepth 100000 in
theorem tz (w : World) (hc : w.cell? ⟨3, 15, none⟩ = some (.int .u8 4)) :
    Calls Tryd.prog 100 #[.int .u64 16] w fun e w' => e = .returned (.int .i64 4) ∧ w' = w := by
  go_enter Tryd.func100, Tryd.ntmps100
  go_wp2_with fail
  refine (tz16 w hc).mono ?_
  rintro e w' ⟨rfl, rfl⟩
  go_wp2
  go_ret
  exact ⟨rfl, rfl⟩

set_option maxRecDepth 100000 in
theorem pow2 (w : World) : Calls Tryd.prog 99 #[.int .i64 16] w fun e w' => e = .returned (.bool true) ∧ w' = w := by
  go_enter Tryd.func99, Tryd.ntmps99
  go_wp2
  go_ret
  exact ⟨rfl, rfl⟩

end Go.Proofs.YtlpbffcijhgelaaDoor

namespace Go.Proofs.YtlpbffcijhgelaaDoor
open Go Go.RowKit
set_option linter.unusedVariables false
set_option linter.unusedSimpArgs false

theorem push_all : ∀ (zs : List Int) (s : ByteArray), zs.foldl (fun r n => r.push (UInt8.ofNat n.toNat)) s = ⟨s.data ++ (zs.map (fun z => UInt8.ofNat z.toNat)).toArray⟩
  | [], s => by simp
  | z :: r, s => by
    rw [List.foldl_cons, push_all r]
    simp [ByteArray.push]

theorem conv_str (W : World) (b o n c : Nat) (zs : List Int) (hn : zs.length = n) (hc : ∀ (j : Nat) z, zs[j]? = some z → W.cell? ⟨b, o + j, none⟩ = some (.int .u8 z)) :
    (convert 81 9 (.slice (some ⟨b, o, none⟩) n c)).run Tryd.prog W = .ok (.string ⟨(zs.map (fun z => UInt8.ofNat z.toNat)).toArray⟩) W := by
  rw [run_convert_bytes_string W _ _ _ _ _ _ Tryd.underlying81 Tryd.underlying5 Tryd.underlying9]
  have hl := run_loadCells_list (P := Tryd.prog) W ⟨b, o, none⟩ (zs.map (fun z => Value.int .u8 z)) (fun j v hj => by
    rw [Go.WideShapes.add_plain]
    rw [List.getElem?_map] at hj
    cases hz : zs[j]? with
    | none => simp [hz] at hj
    | some z => simp [hz] at hj; subst hj; exact hc j z hz)
  rw [List.length_map, hn] at hl
  rw [run_bytesToString W _ n c zs hl, push_all]
  simp

/-- The digit that counts k. -/
def hexd (k : Nat) : UInt8 := ((#[48, 49, 50, 51, 52, 53, 54, 55, 56, 57, 97, 98, 99, 100, 101, 102] : Array UInt8)[k]?).getD 0

theorem digits_at (k : Nat) (hk : k < 16) (h : k < (⟨#[48, 49, 50, 51, 52, 53, 54, 55, 56, 57, 97, 98, 99, 100, 101, 102, 103, 104, 105, 106, 107, 108, 109, 110, 111, 112, 113, 114, 115, 116, 117, 118, 119, 120, 121, 122]⟩ : ByteArray).size) :
    (⟨#[48, 49, 50, 51, 52, 53, 54, 55, 56, 57, 97, 98, 99, 100, 101, 102, 103, 104, 105, 106, 107, 108, 109, 110, 111, 112, 113, 114, 115, 116, 117, 118, 119, 120, 121, 122]⟩ : ByteArray)[k] = hexd k := by
  match k, hk with
  | 0, _ => rfl
  | 1, _ => rfl
  | 2, _ => rfl
  | 3, _ => rfl
  | 4, _ => rfl
  | 5, _ => rfl
  | 6, _ => rfl
  | 7, _ => rfl
  | 8, _ => rfl
  | 9, _ => rfl
  | 10, _ => rfl
  | 11, _ => rfl
  | 12, _ => rfl
  | 13, _ => rfl
  | 14, _ => rfl
  | 15, _ => rfl
  | n + 16, h => exact absurd h (by omega)

theorem and15 (x : Int) (h0 : 0 ≤ x) (h1 : x < 18446744073709551616) : bits .and .u64 x 15 = x % 16 := by
  rw [u64_and x 15 h0 h1 (by decide) (by decide)]
  have e : (x.toNat &&& (15 : Int).toNat) = x.toNat % 2 ^ 4 := by
    rw [show ((15 : Int).toNat) = 2 ^ 4 - 1 from rfl, Nat.and_two_pow_sub_one_eq_mod]
  rw [e]
  omega

set_option maxHeartbeats 4000000 in
set_option maxRecDepth 100000 in
theorem bits16_one (u : Int) (hu : 0 ≤ u ∧ u < 16) (w : World) (hc : w.cell? ⟨3, 15, none⟩ = some (.int .u8 4)) (hlt : 3 < w.heap.size) :
    Calls Tryd.prog 92 #[.slice none 0 0, .int .u64 u, .int .i64 16, .bool false, .bool false] w fun e w' => e = .returned (.tuple #[.slice none 0 0, .string ⟨#[hexd u.toNat]⟩]) ∧ Below w.heap.size w w' := by
  have ha : ∀ o, (w.alloc o).cell? ⟨3, 15, none⟩ = some (.int .u8 4) := fun o => (World.cell?_alloc_lt _ _ _ hlt).trans hc
  have hz65 : Tryd.zeroCells145.size = 65 := by kernel_rfl
  have q0 : decide (16 ≤ u) = false := by simp; omega
  go_enter Tryd.func92, Tryd.ntmps92
  go_wp2_with (first
    | (go_at_call 99; refine (pow2 _).mono ?_; rintro e w' ⟨rfl, rfl⟩)
    | (go_at_call 100; refine (tz _ (ha _)).mono ?_; rintro e w' ⟨rfl, rfl⟩))
  go_rounds 1
  all_goals
    rw [digits_at u.toNat (by omega)]
    rw [conv_str _ _ 64 1 1 [((hexd u.toNat).toNat : Int)] rfl (fun j z hj => by
      match j, hj with
      | 0, hj =>
        cases hj
        rw [World.cell?_alloc_new]
        simp [Array.getElem?_setIfInBounds, hz65]
      | n + 1, hj => simp at hj)]
    go_wp2
    go_ret2
    exact ⟨rfl, (Below.refl _ w).alloc (Nat.le_refl _) _⟩

set_option maxHeartbeats 4000000 in
set_option maxRecDepth 100000 in
theorem bits16_two (u : Int) (hu : 16 ≤ u ∧ u < 256) (w : World) (hc : w.cell? ⟨3, 15, none⟩ = some (.int .u8 4)) (hlt : 3 < w.heap.size) :
    Calls Tryd.prog 92 #[.slice none 0 0, .int .u64 u, .int .i64 16, .bool false, .bool false] w fun e w' => e = .returned (.tuple #[.slice none 0 0, .string ⟨#[hexd (u / 16).toNat, hexd (u % 16).toNat]⟩]) ∧ Below w.heap.size w w' := by
  have ha : ∀ o, (w.alloc o).cell? ⟨3, 15, none⟩ = some (.int .u8 4) := fun o => (World.cell?_alloc_lt _ _ _ hlt).trans hc
  have hz65 : Tryd.zeroCells145.size = 65 := by kernel_rfl
  have q0 : decide (16 ≤ u) = true := by simp; omega
  have n0 : bits .and .u64 u 15 = u % 16 := and15 _ (by omega) (by omega)
  have q1 : decide (16 ≤ u / 16) = false := by simp; omega
  go_enter Tryd.func92, Tryd.ntmps92
  go_wp2_with (first
    | (go_at_call 99; refine (pow2 _).mono ?_; rintro e w' ⟨rfl, rfl⟩)
    | (go_at_call 100; refine (tz _ (ha _)).mono ?_; rintro e w' ⟨rfl, rfl⟩))
  go_rounds 2
  all_goals
    rw [digits_at (u % 16).toNat (by omega)]
    rw [digits_at (u / 16).toNat (by omega)]
    rw [conv_str _ _ 63 2 2 [((hexd (u / 16).toNat).toNat : Int), ((hexd (u % 16).toNat).toNat : Int)] rfl (fun j z hj => by
      match j, hj with
      | 0, hj =>
        cases hj
        rw [World.cell?_alloc_new]
        simp [Array.getElem?_setIfInBounds, hz65]
      | 1, hj =>
        cases hj
        rw [World.cell?_alloc_new]
        simp [Array.getElem?_setIfInBounds, hz65]
      | n + 2, hj => simp at hj)]
    go_wp2
    go_ret2
    exact ⟨rfl, (Below.refl _ w).alloc (Nat.le_refl _) _⟩

set_option maxHeartbeats 4000000 in
set_option maxRecDepth 100000 in
theorem bits16_three (u : Int) (hu : 256 ≤ u ∧ u < 4096) (w : World) (hc : w.cell? ⟨3, 15, none⟩ = some (.int .u8 4)) (hlt : 3 < w.heap.size) :
    Calls Tryd.prog 92 #[.slice none 0 0, .int .u64 u, .int .i64 16, .bool false, .bool false] w fun e w' => e = .returned (.tuple #[.slice none 0 0, .string ⟨#[hexd ((u / 16) / 16).toNat, hexd ((u / 16) % 16).toNat, hexd (u % 16).toNat]⟩]) ∧ Below w.heap.size w w' := by
  have ha : ∀ o, (w.alloc o).cell? ⟨3, 15, none⟩ = some (.int .u8 4) := fun o => (World.cell?_alloc_lt _ _ _ hlt).trans hc
  have hz65 : Tryd.zeroCells145.size = 65 := by kernel_rfl
  have q0 : decide (16 ≤ u) = true := by simp; omega
  have n0 : bits .and .u64 u 15 = u % 16 := and15 _ (by omega) (by omega)
  have q1 : decide (16 ≤ u / 16) = true := by simp; omega
  have n1 : bits .and .u64 (u / 16) 15 = (u / 16) % 16 := and15 _ (by omega) (by omega)
  have q2 : decide (16 ≤ (u / 16) / 16) = false := by simp; omega
  go_enter Tryd.func92, Tryd.ntmps92
  go_wp2_with (first
    | (go_at_call 99; refine (pow2 _).mono ?_; rintro e w' ⟨rfl, rfl⟩)
    | (go_at_call 100; refine (tz _ (ha _)).mono ?_; rintro e w' ⟨rfl, rfl⟩))
  go_rounds 3
  all_goals
    rw [digits_at (u % 16).toNat (by omega)]
    rw [digits_at ((u / 16) % 16).toNat (by omega)]
    rw [digits_at ((u / 16) / 16).toNat (by omega)]
    rw [conv_str _ _ 62 3 3 [((hexd ((u / 16) / 16).toNat).toNat : Int), ((hexd ((u / 16) % 16).toNat).toNat : Int), ((hexd (u % 16).toNat).toNat : Int)] rfl (fun j z hj => by
      match j, hj with
      | 0, hj =>
        cases hj
        rw [World.cell?_alloc_new]
        simp [Array.getElem?_setIfInBounds, hz65]
      | 1, hj =>
        cases hj
        rw [World.cell?_alloc_new]
        simp [Array.getElem?_setIfInBounds, hz65]
      | 2, hj =>
        cases hj
        rw [World.cell?_alloc_new]
        simp [Array.getElem?_setIfInBounds, hz65]
      | n + 3, hj => simp at hj)]
    go_wp2
    go_ret2
    exact ⟨rfl, (Below.refl _ w).alloc (Nat.le_refl _) _⟩

set_option maxHeartbeats 4000000 in
set_option maxRecDepth 100000 in
theorem bits16_four (u : Int) (hu : 4096 ≤ u ∧ u < 65536) (w : World) (hc : w.cell? ⟨3, 15, none⟩ = some (.int .u8 4)) (hlt : 3 < w.heap.size) :
    Calls Tryd.prog 92 #[.slice none 0 0, .int .u64 u, .int .i64 16, .bool false, .bool false] w fun e w' => e = .returned (.tuple #[.slice none 0 0, .string ⟨#[hexd (((u / 16) / 16) / 16).toNat, hexd (((u / 16) / 16) % 16).toNat, hexd ((u / 16) % 16).toNat, hexd (u % 16).toNat]⟩]) ∧ Below w.heap.size w w' := by
  have ha : ∀ o, (w.alloc o).cell? ⟨3, 15, none⟩ = some (.int .u8 4) := fun o => (World.cell?_alloc_lt _ _ _ hlt).trans hc
  have hz65 : Tryd.zeroCells145.size = 65 := by kernel_rfl
  have q0 : decide (16 ≤ u) = true := by simp; omega
  have n0 : bits .and .u64 u 15 = u % 16 := and15 _ (by omega) (by omega)
  have q1 : decide (16 ≤ u / 16) = true := by simp; omega
  have n1 : bits .and .u64 (u / 16) 15 = (u / 16) % 16 := and15 _ (by omega) (by omega)
  have q2 : decide (16 ≤ (u / 16) / 16) = true := by simp; omega
  have n2 : bits .and .u64 ((u / 16) / 16) 15 = ((u / 16) / 16) % 16 := and15 _ (by omega) (by omega)
  have q3 : decide (16 ≤ ((u / 16) / 16) / 16) = false := by simp; omega
  go_enter Tryd.func92, Tryd.ntmps92
  go_wp2_with (first
    | (go_at_call 99; refine (pow2 _).mono ?_; rintro e w' ⟨rfl, rfl⟩)
    | (go_at_call 100; refine (tz _ (ha _)).mono ?_; rintro e w' ⟨rfl, rfl⟩))
  go_rounds 4
  all_goals
    rw [digits_at (u % 16).toNat (by omega)]
    rw [digits_at ((u / 16) % 16).toNat (by omega)]
    rw [digits_at (((u / 16) / 16) % 16).toNat (by omega)]
    rw [digits_at (((u / 16) / 16) / 16).toNat (by omega)]
    rw [conv_str _ _ 61 4 4 [((hexd (((u / 16) / 16) / 16).toNat).toNat : Int), ((hexd (((u / 16) / 16) % 16).toNat).toNat : Int), ((hexd ((u / 16) % 16).toNat).toNat : Int), ((hexd (u % 16).toNat).toNat : Int)] rfl (fun j z hj => by
      match j, hj with
      | 0, hj =>
        cases hj
        rw [World.cell?_alloc_new]
        simp [Array.getElem?_setIfInBounds, hz65]
      | 1, hj =>
        cases hj
        rw [World.cell?_alloc_new]
        simp [Array.getElem?_setIfInBounds, hz65]
      | 2, hj =>
        cases hj
        rw [World.cell?_alloc_new]
        simp [Array.getElem?_setIfInBounds, hz65]
      | 3, hj =>
        cases hj
        rw [World.cell?_alloc_new]
        simp [Array.getElem?_setIfInBounds, hz65]
      | n + 4, hj => simp at hj)]
    go_wp2
    go_ret2
    exact ⟨rfl, (Below.refl _ w).alloc (Nat.le_refl _) _⟩

end Go.Proofs.YtlpbffcijhgelaaDoor

namespace Go.Proofs.YtlpbffcijhgelaaDoor
open Go Go.RowKit
set_option linter.unusedVariables false
set_option linter.unusedSimpArgs false

/-- A number below 65536 in hex digits. -/
def hexText (u : Int) : List UInt8 :=
  if u < 16 then [hexd u.toNat] else if u < 256 then [hexd (u / 16).toNat, hexd (u % 16).toNat]
  else if u < 4096 then [hexd (u / 16 / 16).toNat, hexd (u / 16 % 16).toNat, hexd (u % 16).toNat]
  else [hexd (u / 16 / 16 / 16).toNat, hexd (u / 16 / 16 % 16).toNat, hexd (u / 16 % 16).toNat, hexd (u % 16).toNat]

theorem bits16 (u : Int) (hu : 0 ≤ u ∧ u < 65536) (w : World) (hc : w.cell? ⟨3, 15, none⟩ = some (.int .u8 4)) (hlt : 3 < w.heap.size) :
    Calls Tryd.prog 92 #[.slice none 0 0, .int .u64 u, .int .i64 16, .bool false, .bool false] w fun e w' => e = .returned (.tuple #[.slice none 0 0, .string ⟨(hexText u).toArray⟩]) ∧ Below w.heap.size w w' := by
  unfold hexText
  split
  · exact bits16_one u (by omega) w hc hlt
  · split
    · exact bits16_two u (by omega) w hc hlt
    · split
      · exact bits16_three u (by omega) w hc hlt
      · exact bits16_four u (by omega) w hc hlt

set_option maxRecDepth 100000 in
theorem uint16_in (u : Int) (hu : 0 ≤ u ∧ u < 65536) (w : World) (hc : w.cell? ⟨3, 15, none⟩ = some (.int .u8 4)) (hlt : 3 < w.heap.size) :
    Calls Tryd.prog 88 #[.int .u64 u, .int .i64 16] w fun e w' => e = .returned (.string ⟨(hexText u).toArray⟩) ∧ Below w.heap.size w w' := by
  have hC := bits16 u hu w hc hlt
  generalize hexText u = t at hC ⊢
  go_enter Tryd.func88, Tryd.ntmps88
  go_wp2_with fail
  refine hC.mono ?_
  rintro e w' ⟨rfl, hb⟩
  go_wp2
  go_ret
  exact ⟨rfl, hb⟩

set_option maxRecDepth 100000 in
theorem uint16_calls (u : Int) (hu : 0 ≤ u ∧ u < 65536) (w : World) (hc : w.cell? ⟨3, 15, none⟩ = some (.int .u8 4)) (hlt : 3 < w.heap.size) :
    Calls Tryd.prog 80 #[.int .u64 u, .int .i64 16] w fun e w' => e = .returned (.string ⟨(hexText u).toArray⟩) ∧ Below w.heap.size w w' := by
  have hC := uint16_in u hu w hc hlt
  generalize hexText u = t at hC ⊢
  go_enter Tryd.func80, Tryd.ntmps80
  go_wp2_with fail
  refine hC.mono ?_
  rintro e w' ⟨rfl, hb⟩
  go_wp2
  go_ret
  exact ⟨rfl, hb⟩

set_option maxHeartbeats 4000000 in
set_option maxRecDepth 100000 in
theorem groups_known (w : World) : Calls Tryd.prog 59 #[.agg #[.int .u8 32, .int .u8 1, .int .u8 13, .int .u8 184, .int .u8 0, .int .u8 0, .int .u8 0, .int .u8 0, .int .u8 0, .int .u8 0, .int .u8 0, .int .u8 0, .int .u8 0, .int .u8 0, .int .u8 0, .int .u8 1]] w fun e w' => e = .returned (.agg #[.int .u16 8193, .int .u16 3512, .int .u16 0, .int .u16 0, .int .u16 0, .int .u16 0, .int .u16 0, .int .u16 1]) ∧ Below w.heap.size w w' := by
  go_enter Tryd.func59, Tryd.ntmps59
  go_wp2
  refine wp_loop_rounds 9 ?_
  iterate 8 (rw [rounds_succ]; go_wp2; go_region; go_wp2)
  rw [rounds_succ]
  go_wp2
  go_returns
  refine ⟨by kernel_rfl, ?_⟩
  go_grown

set_option maxHeartbeats 4000000 in
set_option maxRecDepth 100000 in
theorem hexes_calls (zs : List Int) (hz : ∀ z ∈ zs, 0 ≤ z ∧ z < 65536) (hl : zs.length ≤ 8) (b o c : Nat) (w : World) (ht : ∀ w', Below w.heap.size w w' → w'.cell? ⟨3, 15, none⟩ = some (.int .u8 4)) (hlt : 3 < w.heap.size) (hb : b < w.heap.size)
    (hcell : ∀ (j : Nat) z, zs[j]? = some z → w.cell? ⟨b, o + j, none⟩ = some (.int .u16 z)) :
    Calls Tryd.prog 61 #[.slice (some ⟨b, o, none⟩) zs.length c] w fun e w' => e = .returned (.string ⟨(Lib.join (zs.map hexText) [58]).toArray⟩) ∧ Below w.heap.size w w' := by
  have HT : Hid _ := ht
  have HC : Hid _ := hcell
  have HZ : Hid _ := hz
  clear ht hcell hz
  obtain ⟨n, hn⟩ : ∃ n, n = zs.length := ⟨_, rfl⟩
  rw [← hn] at hl ⊢
  have HN : Hid _ := hn
  clear hn
  go_enter Tryd.func61, Tryd.ntmps61
  go_wp2_with fail
  go_loopw [3, 8] (fun v3 v8 wr => ∃ (k : Nat), v8 = .int .i64 k ∧ k ≤ n ∧ Strs w ((zs.take k).map hexText) v3 wr) (fun _ v8 _ => n - (intOf v8).toNat)
  case atStart => exact ⟨0, rfl, by omega, ⟨World.ownsRow_nil _ _ _ _, Below.refl _ _⟩⟩
  case round =>
    obtain ⟨k, rfl, hk, hS⟩ := hrel
    by_cases hkn : k < n
    · have hN := HN.out
      have hzk := HZ.out zs[k] (List.getElem_mem _)
      have hck := (hS.below.cell (p := ⟨b, o + k, none⟩) hb).trans (HC.out k zs[k] (by simp [show k < zs.length by omega]))
      have hS2 : Strs w ((zs.take k).map hexText ++ [hexText zs[k]]) u3 wr → True := fun _ => trivial
      have htake : (zs.take (k + 1)).map hexText = (zs.take k).map hexText ++ [hexText zs[k]] := by
        rw [List.take_add_one, List.getElem?_eq_getElem (by omega), List.map_append]
        rfl
      generalize zs[k] = z at hzk hck htake
      clear hN hS2
      have hC := uint16_calls z hzk wr (HT.out wr hS.below) (Nat.lt_of_lt_of_le hlt hS.below.size)
      go_wp2_with fail
      refine hC.mono ?_
      rintro e W1 ⟨rfl, hbb⟩
      clear hC
      have hlk : ((zs.take k).map hexText).length ≤ 1000 := by simp; omega
      obtain ⟨v', X', hrun, hS'⟩ := (hS.kept hbb).add (hexText z) hlk 76
      have HR : Hid _ := hrun
      clear hrun
      go_wp2_with (at_builtin; refine wpList_append_run rfl _ _ _ _ rfl rfl rfl HR.out ?_; clear HR)
      rw [← htake] at hS'
      refine ⟨⟨k + 1, by simp, by omega, hS'⟩, by simp [intOf]; omega⟩
    · have hN := HN.out
      have hall : zs.take k = zs := List.take_of_length_le (by omega)
      rw [hall] at hS
      have hC := hS.join 58 (by simp; omega) (fun x hx => by
        simp at hx
        obtain ⟨z, hz, rfl⟩ := hx
        unfold hexText
        split
        · simp
        · split
          · simp
          · split <;> simp)
      clear hN
      go_wp2_with fail
      refine hC.mono ?_
      rintro e W1 ⟨rfl, hbb⟩
      go_wp2
      go_ret
      exact ⟨rfl, hS.below.trans (hbb.mono hS.below.size)⟩

set_option maxHeartbeats 4000000 in
set_option maxRecDepth 100000 in
theorem gap_known (b : Nat) (w : World) (c0 : w.cell? ⟨b, 0, none⟩ = some (.int .u16 8193)) (c1 : w.cell? ⟨b, 1, none⟩ = some (.int .u16 3512)) (c2 : w.cell? ⟨b, 2, none⟩ = some (.int .u16 0)) (c3 : w.cell? ⟨b, 3, none⟩ = some (.int .u16 0))
    (c4 : w.cell? ⟨b, 4, none⟩ = some (.int .u16 0)) (c5 : w.cell? ⟨b, 5, none⟩ = some (.int .u16 0)) (c6 : w.cell? ⟨b, 6, none⟩ = some (.int .u16 0)) (c7 : w.cell? ⟨b, 7, none⟩ = some (.int .u16 1)) :
    Calls Tryd.prog 60 #[.slice (some ⟨b, 0, none⟩) 8 8] w fun e w' => e = .returned (.tuple #[.int .i64 2, .int .i64 7]) ∧ w' = w := by
  go_enter Tryd.func60, Tryd.ntmps60
  go_wp2
  go_rounds 9
  all_goals go_ret2
  all_goals exact ⟨rfl, rfl⟩

end Go.Proofs.YtlpbffcijhgelaaDoor
