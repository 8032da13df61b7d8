/-
  Numbers below 65536 in hex digits.
-/
import Derived.Test.YtloadmpappjceaaDoorFoldC
import Derived.Handy
import Derived.Laws.BytesString
import Derived.Laws.BitsAllLaws
namespace Go.Proofs.YtloadmpappjceaaDoor
open Go Go.RowKit
set_option linter.unusedVariables false
set_option linter.unusedSimpArgs false


set_option maxRecDepth 100000 in
theorem tz16 (w : World) (hc : w.cell? ⟨2, 15, none⟩ = some (.int .u8 4)) :
    Calls Tryd.prog 111 #[.int .u64 16] w fun e w' => e = .returned (.int .i64 4) ∧ w' = w := by
  have e1 : IntKind.u64.wrap (-16) = 18446744073709551600 := by decide
  have e2 : bits .and .u64 16 18446744073709551600 = 16 := by kernel_rfl
  have e3 : IntKind.u64.wrap (16 * 285870213051353865) = 4573923408821661840 := by decide
  have e4 : IntKind.u64.wrap 4573923408821661840 = 4573923408821661840 := by decide
  go_enter Tryd.func111, Tryd.ntmps111
  go_wp2
  go_ret
  exact ⟨rfl, rfl⟩

set_option maxRecDepth 100000 in
theorem tz (w : World) (hc : w.cell? ⟨2, 15, none⟩ = some (.int .u8 4)) :
    Calls Tryd.prog 107 #[.int .u64 16] w fun e w' => e = .returned (.int .i64 4) ∧ w' = w := by
  go_enter Tryd.func107, Tryd.ntmps107
  go_wp2_with fail
  refine (tz16 w hc).mono ?_
  rintro e w' ⟨rfl, rfl⟩
  go_wp2
  go_ret
  exact ⟨rfl, rfl⟩

set_option maxRecDepth 100000 in
theorem pow2 (w : World) : Calls Tryd.prog 106 #[.int .i64 16] w fun e w' => e = .returned (.bool true) ∧ w' = w := by
  go_enter Tryd.func106, Tryd.ntmps106
  go_wp2
  go_ret
  exact ⟨rfl, rfl⟩



theorem push_all : ∀ (zs : List Int) (s : ByteArray), zs.foldl (fun r n => r.push (UInt8.ofNat n.toNat)) s = ⟨s.data ++ (zs.map (fun z => UInt8.ofNat z.toNat)).toArray⟩
  | [], s => by simp
  | z :: r, s => by
    rw [List.foldl_cons, push_all r]
    simp [ByteArray.push]

theorem conv_str (W : World) (b o n c : Nat) (zs : List Int) (hn : zs.length = n) (hc : ∀ (j : Nat) z, zs[j]? = some z → W.cell? ⟨b, o + j, none⟩ = some (.int .u8 z)) :
    (convert 75 9 (.slice (some ⟨b, o, none⟩) n c)).run Tryd.prog W = .ok (.string ⟨(zs.map (fun z => UInt8.ofNat z.toNat)).toArray⟩) W := by
  rw [run_convert_bytes_string W _ _ _ _ _ _ Tryd.underlying75 Tryd.underlying5 Tryd.underlying9]
  have hl := run_loadCells_list (P := Tryd.prog) W ⟨b, o, none⟩ (zs.map (fun z => Value.int .u8 z)) (fun j v hj => by
    rw [Go.WideShapes.add_plain]
    rw [List.getElem?_map] at hj
    cases hz : zs[j]? with
    | none => simp [hz] at hj
    | some z => simp [hz] at hj; subst hj; exact hc j z hz)
  rw [List.length_map, hn] at hl
  rw [run_bytesToString W _ n c zs hl, push_all]
  simp

/-- The digit that counts k. -/
def hexd (k : Nat) : UInt8 := ((#[48, 49, 50, 51, 52, 53, 54, 55, 56, 57, 97, 98, 99, 100, 101, 102] : Array UInt8)[k]?).getD 0

theorem digits_at (k : Nat) (hk : k < 16) (h : k < (⟨#[48, 49, 50, 51, 52, 53, 54, 55, 56, 57, 97, 98, 99, 100, 101, 102, 103, 104, 105, 106, 107, 108, 109, 110, 111, 112, 113, 114, 115, 116, 117, 118, 119, 120, 121, 122]⟩ : ByteArray).size) :
    (⟨#[48, 49, 50, 51, 52, 53, 54, 55, 56, 57, 97, 98, 99, 100, 101, 102, 103, 104, 105, 106, 107, 108, 109, 110, 111, 112, 113, 114, 115, 116, 117, 118, 119, 120, 121, 122]⟩ : ByteArray)[k] = hexd k := by
  match k, hk with
  | 0, _ => rfl
  | 1, _ => rfl
  | 2, _ => rfl
  | 3, _ => rfl
  | 4, _ => rfl
  | 5, _ => rfl
  | 6, _ => rfl
  | 7, _ => rfl
  | 8, _ => rfl
  | 9, _ => rfl
  | 10, _ => rfl
  | 11, _ => rfl
  | 12, _ => rfl
  | 13, _ => rfl
  | 14, _ => rfl
  | 15, _ => rfl
  | n + 16, h => exact absurd h (by omega)

theorem and15 (x : Int) (h0 : 0 ≤ x) (h1 : x < 18446744073709551616) : bits .and .u64 x 15 = x % 16 := by
  rw [u64_and x 15 h0 h1 (by decide) (by decide)]
  have e : (x.toNat &&& (15 : Int).toNat) = x.toNat % 2 ^ 4 := by
    rw [show ((15 : Int).toNat) = 2 ^ 4 - 1 from rfl, Nat.and_two_pow_sub_one_eq_mod]
  rw [e]
  omega

set_option maxHeartbeats 4000000 in
set_option maxRecDepth 100000 in
theorem bits16_one (u : Int) (hu : 0 ≤ u ∧ u < 16) (w : World) (hc : w.cell? ⟨2, 15, none⟩ = some (.int .u8 4)) (hlt : 2 < w.heap.size) :
    Calls Tryd.prog 94 #[.slice none 0 0, .int .u64 u, .int .i64 16, .bool false, .bool false] w fun e w' => e = .returned (.tuple #[.slice none 0 0, .string ⟨#[hexd u.toNat]⟩]) ∧ Below w.heap.size w w' := by
  have ha : ∀ o, (w.alloc o).cell? ⟨2, 15, none⟩ = some (.int .u8 4) := fun o => (World.cell?_alloc_lt _ _ _ hlt).trans hc
  have hz65 : Tryd.zeroCells147.size = 65 := by kernel_rfl
  have q0 : decide (16 ≤ u) = false := by simp; omega
  go_enter Tryd.func94, Tryd.ntmps94
  go_wp2_with (first
    | (go_at_call 106; refine (pow2 _).mono ?_; rintro e w' ⟨rfl, rfl⟩)
    | (go_at_call 107; refine (tz _ (ha _)).mono ?_; rintro e w' ⟨rfl, rfl⟩))
  go_rounds 1
  all_goals
    rw [digits_at u.toNat (by omega)]
    rw [conv_str _ _ 64 1 1 [((hexd u.toNat).toNat : Int)] rfl (fun j z hj => by
      match j, hj with
      | 0, hj =>
        cases hj
        rw [World.cell?_alloc_new]
        simp [Array.getElem?_setIfInBounds, hz65]
      | n + 1, hj => simp at hj)]
    go_wp2
    go_ret2
    exact ⟨rfl, (Below.refl _ w).alloc (Nat.le_refl _) _⟩

set_option maxHeartbeats 4000000 in
set_option maxRecDepth 100000 in
theorem bits16_two (u : Int) (hu : 16 ≤ u ∧ u < 256) (w : World) (hc : w.cell? ⟨2, 15, none⟩ = some (.int .u8 4)) (hlt : 2 < w.heap.size) :
    Calls Tryd.prog 94 #[.slice none 0 0, .int .u64 u, .int .i64 16, .bool false, .bool false] w fun e w' => e = .returned (.tuple #[.slice none 0 0, .string ⟨#[hexd (u / 16).toNat, hexd (u % 16).toNat]⟩]) ∧ Below w.heap.size w w' := by
  have ha : ∀ o, (w.alloc o).cell? ⟨2, 15, none⟩ = some (.int .u8 4) := fun o => (World.cell?_alloc_lt _ _ _ hlt).trans hc
  have hz65 : Tryd.zeroCells147.size = 65 := by kernel_rfl
  have q0 : decide (16 ≤ u) = true := by simp; omega
  have n0 : bits .and .u64 u 15 = u % 16 := and15 _ (by omega) (by omega)
  have q1 : decide (16 ≤ u / 16) = false := by simp; omega
  go_enter Tryd.func94, Tryd.ntmps94
  go_wp2_with (first
    | (go_at_call 106; refine (pow2 _).mono ?_; rintro e w' ⟨rfl, rfl⟩)
    | (go_at_call 107; refine (tz _ (ha _)).mono ?_; rintro e w' ⟨rfl, rfl⟩))
  go_rounds 2
  all_goals
    rw [digits_at (u % 16).toNat (by omega)]
    rw [digits_at (u / 16).toNat (by omega)]
    rw [conv_str _ _ 63 2 2 [((hexd (u / 16).toNat).toNat : Int), ((hexd (u % 16).toNat).toNat : Int)] rfl (fun j z hj => by
      match j, hj with
      | 0, hj =>
        cases hj
        rw [World.cell?_alloc_new]
        simp [Array.getElem?_setIfInBounds, hz65]
      | 1, hj =>
        cases hj
        rw [World.cell?_alloc_new]
        simp [Array.getElem?_setIfInBounds, hz65]
      | n + 2, hj => simp at hj)]
    go_wp2
    go_ret2
    exact ⟨rfl, (Below.refl _ w).alloc (Nat.le_refl _) _⟩

set_option maxHeartbeats 4000000 in
set_option maxRecDepth 100000 in
theorem bits16_three (u : Int) (hu : 256 ≤ u ∧ u < 4096) (w : World) (hc : w.cell? ⟨2, 15, none⟩ = some (.int .u8 4)) (hlt : 2 < w.heap.size) :
    Calls Tryd.prog 94 #[.slice none 0 0, .int .u64 u, .int .i64 16, .bool false, .bool false] w fun e w' => e = .returned (.tuple #[.slice none 0 0, .string ⟨#[hexd ((u / 16) / 16).toNat, hexd ((u / 16) % 16).toNat, hexd (u % 16).toNat]⟩]) ∧ Below w.heap.size w w' := by
  have ha : ∀ o, (w.alloc o).cell? ⟨2, 15, none⟩ = some (.int .u8 4) := fun o => (World.cell?_alloc_lt _ _ _ hlt).trans hc
  have hz65 : Tryd.zeroCells147.size = 65 := by kernel_rfl
  have q0 : decide (16 ≤ u) = true := by simp; omega
  have n0 : bits .and .u64 u 15 = u % 16 := and15 _ (by omega) (by omega)
  have q1 : decide (16 ≤ u / 16) = true := by simp; omega
  have n1 : bits .and .u64 (u / 16) 15 = (u / 16) % 16 := and15 _ (by omega) (by omega)
  have q2 : decide (16 ≤ (u / 16) / 16) = false := by simp; omega
  go_enter Tryd.func94, Tryd.ntmps94
  go_wp2_with (first
    | (go_at_call 106; refine (pow2 _).mono ?_; rintro e w' ⟨rfl, rfl⟩)
    | (go_at_call 107; refine (tz _ (ha _)).mono ?_; rintro e w' ⟨rfl, rfl⟩))
  go_rounds 3
  all_goals
    rw [digits_at (u % 16).toNat (by omega)]
    rw [digits_at ((u / 16) % 16).toNat (by omega)]
    rw [digits_at ((u / 16) / 16).toNat (by omega)]
    rw [conv_str _ _ 62 3 3 [((hexd ((u / 16) / 16).toNat).toNat : Int), ((hexd ((u / 16) % 16).toNat).toNat : Int), ((hexd (u % 16).toNat).toNat : Int)] rfl (fun j z hj => by
      match j, hj with
      | 0, hj =>
        cases hj
        rw [World.cell?_alloc_new]
        simp [Array.getElem?_setIfInBounds, hz65]
      | 1, hj =>
        cases hj
        rw [World.cell?_alloc_new]
        simp [Array.getElem?_setIfInBounds, hz65]
      | 2, hj =>
        cases hj
        rw [World.cell?_alloc_new]
        simp [Array.getElem?_setIfInBounds, hz65]
      | n + 3, hj => simp at hj)]
    go_wp2
    go_ret2
    exact ⟨rfl, (Below.refl _ w).alloc (Nat.le_refl _) _⟩

set_option maxHeartbeats 4000000 in
set_option maxRecDepth 100000 in
theorem bits16_four (u : Int) (hu : 4096 ≤ u ∧ u < 65536) (w : World) (hc : w.cell? ⟨2, 15, none⟩ = some (.int .u8 4)) (hlt : 2 < w.heap.size) :
    Calls Tryd.prog 94 #[.slice none 0 0, .int .u64 u, .int .i64 16, .bool false, .bool false] w fun e w' => e = .returned (.tuple #[.slice none 0 0, .string ⟨#[hexd (((u / 16) / 16) / 16).toNat, hexd (((u / 16) / 16) % 16).toNat, hexd ((u / 16) % 16).toNat, hexd (u % 16).toNat]⟩]) ∧ Below w.heap.size w w' := by
  have ha : ∀ o, (w.alloc o).cell? ⟨2, 15, none⟩ = some (.int .u8 4) := fun o => (World.cell?_alloc_lt _ _ _ hlt).trans hc
  have hz65 : Tryd.zeroCells147.size = 65 := by kernel_rfl
  have q0 : decide (16 ≤ u) = true := by simp; omega
  have n0 : bits .and .u64 u 15 = u % 16 := and15 _ (by omega) (by omega)
  have q1 : decide (16 ≤ u / 16) = true := by simp; omega
  have n1 : bits .and .u64 (u / 16) 15 = (u / 16) % 16 := and15 _ (by omega) (by omega)
  have q2 : decide (16 ≤ (u / 16) / 16) = true := by simp; omega
  have n2 : bits .and .u64 ((u / 16) / 16) 15 = ((u / 16) / 16) % 16 := and15 _ (by omega) (by omega)
  have q3 : decide (16 ≤ ((u / 16) / 16) / 16) = false := by simp; omega
  go_enter Tryd.func94, Tryd.ntmps94
  go_wp2_with (first
    | (go_at_call 106; refine (pow2 _).mono ?_; rintro e w' ⟨rfl, rfl⟩)
    | (go_at_call 107; refine (tz _ (ha _)).mono ?_; rintro e w' ⟨rfl, rfl⟩))
  go_rounds 4
  all_goals
    rw [digits_at (u % 16).toNat (by omega)]
    rw [digits_at ((u / 16) % 16).toNat (by omega)]
    rw [digits_at (((u / 16) / 16) % 16).toNat (by omega)]
    rw [digits_at (((u / 16) / 16) / 16).toNat (by omega)]
    rw [conv_str _ _ 61 4 4 [((hexd (((u / 16) / 16) / 16).toNat).toNat : Int), ((hexd (((u / 16) / 16) % 16).toNat).toNat : Int), ((hexd ((u / 16) % 16).toNat).toNat : Int), ((hexd (u % 16).toNat).toNat : Int)] rfl (fun j z hj => by
      match j, hj with
      | 0, hj =>
        cases hj
        rw [World.cell?_alloc_new]
        simp [Array.getElem?_setIfInBounds, hz65]
      | 1, hj =>
        cases hj
        rw [World.cell?_alloc_new]
        simp [Array.getElem?_setIfInBounds, hz65]
      | 2, hj =>
        cases hj
        rw [World.cell?_alloc_new]
        simp [Array.getElem?_setIfInBounds, hz65]
      | 3, hj =>
        cases hj
        rw [World.cell?_alloc_new]
        simp [Array.getElem?_setIfInBounds, hz65]
      | n + 4, hj => simp at hj)]
    go_wp2
    go_ret2
    exact ⟨rfl, (Below.refl _ w).alloc (Nat.le_refl _) _⟩


/-- The table of trailing zeros is there. -/
def Tz (w : World) : Prop := 2 < w.heap.size ∧ ∀ w', Below w.heap.size w w' → w'.cell? ⟨2, 15, none⟩ = some (.int .u8 4)
theorem Tz.on {w w' : World} (h : Tz w) (hb : Below w.heap.size w w') : Tz w' := ⟨Nat.lt_of_lt_of_le h.1 hb.size, fun x hx => h.2 x (hb.trans (hx.mono hb.size))⟩

/-- A number below 65536 in hex digits. -/
def hexS (u : Nat) : ByteArray :=
  if u < 16 then ⟨#[hexd u]⟩ else if u < 256 then ⟨#[hexd (u / 16), hexd (u % 16)]⟩ else if u < 4096 then ⟨#[hexd (u / 256), hexd (u / 16 % 16), hexd (u % 16)]⟩ else ⟨#[hexd (u / 4096), hexd (u / 256 % 16), hexd (u / 16 % 16), hexd (u % 16)]⟩

end Go.Proofs.YtloadmpappjceaaDoor
