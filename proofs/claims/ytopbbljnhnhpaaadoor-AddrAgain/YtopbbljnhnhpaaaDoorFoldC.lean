/-
  Text4.
  Numbers below 65536 in hex digits.
  Numbers below 65536 in hex digits: formatBits.
  The own text of one known address.
  The text of the known IPv6 address.
-/
import Derived.Test.YtopbbljnhnhpaaaDoorShelf
import Derived.Test.YtopbbljnhnhpaaaDoorAddrParse4
import Derived.Laws.BytesString
import Derived.Deep.RegionWith
namespace Go.Proofs.YtopbbljnhnhpaaaDoor
open Go Go.RowKit
set_option linter.unusedVariables false
set_option linter.unusedSimpArgs false

/-- The table that strconv.Itoa reads, whatever is laid above. -/
def Tabs (w : World) : Prop := ∀ w', Below w.heap.size w w' → Lib.TabIs Tryd.prog w' "internal/strconv.uint64pow10" .u64 Lib.pow10Tab

abbrev strV (l : List UInt8) : Value := .string ⟨l.toArray⟩

def text4 (l : List Int) : List UInt8 := Lib.join (l.map Lib.itoa) [46]

theorem itoa_calls (n : Int) (hn : Byte n) (w : World) (ht : Lib.TabIs Tryd.prog w "internal/strconv.uint64pow10" .u64 Lib.pow10Tab) :
    Calls Tryd.prog 54 #[.int .i64 n] w fun e w' => e = .returned (.string ⟨(Lib.itoa n).toArray⟩) ∧ Below w.heap.size w w' := by
  obtain ⟨h0, h1⟩ := hn
  refine (Tryd.strconv_Itoa n (by omega) (by omega) w ht).mono ?_
  rintro e w' ⟨rfl, k, os, rfl⟩
  refine ⟨rfl, rfl, rfl, rfl, ?_, fun j hj => ?_⟩
  · show w.heap.size ≤ (w.heap ++ os).size
    rw [Array.size_append]
    omega
  · show (w.heap ++ os)[j]? = w.heap[j]?
    rw [Array.getElem?_append_left hj]

theorem itoa_len {n : Int} (hn : Byte n) : (Lib.itoa n).length ≤ 1000 := by
  obtain ⟨h0, h1⟩ := hn
  have d1 : ∀ u, u < 10 → (Lib.decDigits u).length = 1 := fun u hu => by rw [Lib.decDigits, dif_pos hu]; rfl
  have d2 : ∀ u, u < 100 → (Lib.decDigits u).length ≤ 2 := fun u hu => by
    rw [Lib.decDigits]
    split
    · simp
    · have := d1 (u / 10) (by omega)
      simp [this]
  have d3 : ∀ u, u < 1000 → (Lib.decDigits u).length ≤ 3 := fun u hu => by
    rw [Lib.decDigits]
    split
    · simp
    · have := d2 (u / 10) (by omega)
      simp
      omega
  unfold Lib.itoa
  rw [if_neg (by omega)]
  have := d3 n.toNat (by omega)
  omega

/-- The texts so far: a row of strings of the call's own. -/
structure Strs (w1 : World) (l : List (List UInt8)) (v : Value) (X : World) : Prop where
  own : X.ownsRow w1.heap.size 9 1 v l.length (l.map strV)
  below : Below w1.heap.size w1 X

theorem Strs.kept {w1 X Y : World} {l : List (List UInt8)} {v : Value} (h : Strs w1 l v X) (hb : Below X.heap.size X Y) : Strs w1 l v Y := by
  refine ⟨⟨h.own.1, h.own.2.imp id ?_⟩, h.below.trans (hb.mono h.below.size)⟩
  rintro ⟨G, cap, cur, rfl, hB, hg, r⟩
  exact ⟨G, cap, cur, rfl, hB, (hb.block G (Array.getElem?_eq_some_iff.1 hg).1).trans hg, r⟩

theorem Strs.add {w1 X : World} {l : List (List UInt8)} {v : Value} (h : Strs w1 l v X) (x : List UInt8) (hl : l.length ≤ 1000) (ty : TypeId) :
    ∃ v' X', (Builtin.append_ #[76, 76] ty #[v, .slice (some ⟨X.heap.size, 0, none⟩) 1 1]).run Tryd.prog (X.alloc (.cells #[strV x] 9)) = .ok v' X' ∧ Strs w1 (l ++ [x]) v' X' := by
  obtain ⟨v', X', hrun, hown, hgr, -⟩ := own_lit elem_string h.own h.below.size (by omega) (by decide) [strV x] 1 rfl (by decide) (by simp [strV, Value.oneCell']) ty _ rfl
  exact ⟨v', X', hrun, ⟨by simpa using hown, h.below.grown hgr h.below.size (fun k hk => (h.own.lt k hk).1)⟩⟩

/-- Join of the texts. -/
theorem Strs.join {w1 X : World} {l : List (List UInt8)} {v : Value} (h : Strs w1 l v X) (c : UInt8) (hl : l.length ≤ 8) (hs : ∀ x ∈ l, x.length ≤ 1000) :
    Calls Tryd.prog 55 #[v, .string ⟨#[c]⟩] X fun e w' => e = .returned (strV (Lib.join l [c])) ∧ Below X.heap.size X w' := by
  have hlen : (Lib.join l [c]).length ≤ 140737488355328 := by
    have : ∀ l : List (List UInt8), (∀ x ∈ l, x.length ≤ 1000) → (Lib.join l [c]).length ≤ 1001 * l.length := by
      intro l
      induction l with
      | nil => intro _; simp [Lib.join_nil]
      | cons x r ih =>
        intro hx
        rw [Lib.join_cons]
        have ht : ∀ r : List (List UInt8), (∀ y ∈ r, y.length ≤ 1000) → (Lib.joinTail [c] r).length ≤ 1001 * r.length := by
          intro r
          induction r with
          | nil => intro _; simp [Lib.joinTail]
          | cons y r ih =>
            intro hy
            have h1 := ih (fun z hz => hy z (List.mem_cons_of_mem _ hz))
            have h2 := hy y (List.mem_cons_self)
            simp only [Lib.joinTail, List.map_cons, List.flatten_cons, List.length_append, List.length_cons, List.length_nil] at h1 ⊢
            omega
        have h1 := ht r (fun z hz => hx z (List.mem_cons_of_mem _ hz))
        have h2 := hx x (List.mem_cons_self)
        simp only [List.length_append, List.length_cons]
        omega
    have := this l hs
    omega
  have hcell := fun g hg => h.own.cells (g := g) hg
  rcases h.own.2 with ⟨rfl, hn⟩ | ⟨G, cap, cur, rfl, hB, hg, hcap, -⟩
  · obtain rfl : l = [] := List.length_eq_zero_iff.1 hn
    refine (Tryd.strings_Join_none none 0 ⟨#[c]⟩ X).mono ?_
    rintro e w' ⟨rfl, rfl⟩
    exact ⟨rfl, Below.refl _ _⟩
  · have hj := Tryd.strings_Join G 0 cap (l.map (fun x => (⟨x.toArray⟩ : ByteArray))) ⟨#[c]⟩ X (fun j x hj => by
      rw [List.getElem?_map] at hj
      cases hz : l[j]? with
      | none => simp [hz] at hj
      | some z =>
        simp [hz] at hj
        subst hj
        have := hcell G rfl j (strV z) (by rw [List.getElem?_map, hz]; rfl)
        rw [Go.WideShapes.add_plain] at this
        simpa [strV] using this) (Array.getElem?_eq_some_iff.1 hg).1 (by simp; omega) (by simpa using hcap) (by
        have e : (List.map (fun x : ByteArray => x.data.toList) (List.map (fun x => (⟨x.toArray⟩ : ByteArray)) l)) = l := by
          rw [List.map_map]
          conv => rhs; rw [← List.map_id l]
          rfl
        rw [e]
        exact hlen)
    have e : (List.map (fun x : ByteArray => x.data.toList) (List.map (fun x => (⟨x.toArray⟩ : ByteArray)) l)) = l := by
      rw [List.map_map]
      conv => rhs; rw [← List.map_id l]
      rfl
    rw [e, List.length_map] at hj
    exact hj

set_option maxHeartbeats 4000000 in
set_option maxRecDepth 100000 in
theorem text4_calls (a0 a1 a2 a3 : Int) (h0 : Byte a0) (h1 : Byte a1) (h2 : Byte a2) (h3 : Byte a3) (w : World) (ht : Tabs w) :
    Calls Tryd.prog 15 #[addrV [a0, a1, a2, a3]] w fun e w' => e = .returned (strV (text4 [a0, a1, a2, a3])) ∧ Below w.heap.size w w' := by
  show Calls Tryd.prog _ #[.agg #[.int .u8 a0, .int .u8 a1, .int .u8 a2, .int .u8 a3]] w _
  have HT : Hid _ := ht
  clear ht
  have b0 : 0 ≤ a0 ∧ a0 < 256 := h0
  have b1 : 0 ≤ a1 ∧ a1 < 256 := h1
  have b2 : 0 ≤ a2 ∧ a2 < 256 := h2
  have b3 : 0 ≤ a3 ∧ a3 < 256 := h3
  have hB1 : Below w.heap.size w (w.alloc (.cells #[.int .u8 a0, .int .u8 a1, .int .u8 a2, .int .u8 a3] 23)) := (Below.refl _ w).alloc (Nat.le_refl _) _
  have i0 : ∀ u : World, (Instr.index 23 (.agg #[.int .u8 a0, .int .u8 a1, .int .u8 a2, .int .u8 a3]) (.int .i64 0)).run Tryd.prog u = .ok (.int .u8 a0) u := fun _ => by kernel_rfl
  have i1 : ∀ u : World, (Instr.index 23 (.agg #[.int .u8 a0, .int .u8 a1, .int .u8 a2, .int .u8 a3]) (.int .i64 1)).run Tryd.prog u = .ok (.int .u8 a1) u := fun _ => by kernel_rfl
  have i2 : ∀ u : World, (Instr.index 23 (.agg #[.int .u8 a0, .int .u8 a1, .int .u8 a2, .int .u8 a3]) (.int .i64 2)).run Tryd.prog u = .ok (.int .u8 a2) u := fun _ => by kernel_rfl
  have i3 : ∀ u : World, (Instr.index 23 (.agg #[.int .u8 a0, .int .u8 a1, .int .u8 a2, .int .u8 a3]) (.int .i64 3)).run Tryd.prog u = .ok (.int .u8 a3) u := fun _ => by kernel_rfl
  go_enter Tryd.func15, Tryd.ntmps15
  go_wp2_with fail
  generalize w.alloc (.cells #[.int .u8 a0, .int .u8 a1, .int .u8 a2, .int .u8 a3] 23) = w1 at hB1 ⊢
  go_loopw [3, 7] (fun v3 v7 wr => ∃ (k : Nat), v7 = .int .i64 k ∧ k ≤ 4 ∧ Strs w1 (([a0, a1, a2, a3].take k).map Lib.itoa) v3 wr) (fun _ v7 _ => 4 - (intOf v7).toNat)
  case atStart => exact ⟨0, rfl, by decide, ⟨World.ownsRow_nil _ _ _ _, Below.refl _ _⟩⟩
  case round =>
    obtain ⟨k, rfl, hk, hS⟩ := hrel
    have hcase : k = 0 ∨ k = 1 ∨ k = 2 ∨ k = 3 ∨ k = 4 := by omega
    rcases hcase with rfl | rfl | rfl | rfl | rfl
    · have hC := itoa_calls a0 h0 wr (HT.out wr (hB1.trans (hS.below.mono hB1.size)))
      go_wp2_with fail
      refine hC.mono ?_
      rintro e W1 ⟨rfl, hb⟩
      clear hC
      obtain ⟨v', X', hrun, hS'⟩ := (hS.kept hb).add (Lib.itoa a0) (by simp) 76
      have HR : Hid _ := hrun
      clear hrun
      go_wp2_with (at_builtin; refine wpList_append_run rfl _ _ _ _ rfl rfl rfl HR.out ?_; clear HR)
      exact ⟨⟨1, rfl, by decide, hS'⟩, by simp [intOf]⟩
    · have hC := itoa_calls a1 h1 wr (HT.out wr (hB1.trans (hS.below.mono hB1.size)))
      go_wp2_with fail
      refine hC.mono ?_
      rintro e W1 ⟨rfl, hb⟩
      clear hC
      obtain ⟨v', X', hrun, hS'⟩ := (hS.kept hb).add (Lib.itoa a1) (by simp) 76
      have HR : Hid _ := hrun
      clear hrun
      go_wp2_with (at_builtin; refine wpList_append_run rfl _ _ _ _ rfl rfl rfl HR.out ?_; clear HR)
      exact ⟨⟨2, rfl, by decide, hS'⟩, by simp [intOf]⟩
    · have hC := itoa_calls a2 h2 wr (HT.out wr (hB1.trans (hS.below.mono hB1.size)))
      go_wp2_with fail
      refine hC.mono ?_
      rintro e W1 ⟨rfl, hb⟩
      clear hC
      obtain ⟨v', X', hrun, hS'⟩ := (hS.kept hb).add (Lib.itoa a2) (by simp) 76
      have HR : Hid _ := hrun
      clear hrun
      go_wp2_with (at_builtin; refine wpList_append_run rfl _ _ _ _ rfl rfl rfl HR.out ?_; clear HR)
      exact ⟨⟨3, rfl, by decide, hS'⟩, by simp [intOf]⟩
    · have hC := itoa_calls a3 h3 wr (HT.out wr (hB1.trans (hS.below.mono hB1.size)))
      go_wp2_with fail
      refine hC.mono ?_
      rintro e W1 ⟨rfl, hb⟩
      clear hC
      obtain ⟨v', X', hrun, hS'⟩ := (hS.kept hb).add (Lib.itoa a3) (by simp) 76
      have HR : Hid _ := hrun
      clear hrun
      go_wp2_with (at_builtin; refine wpList_append_run rfl _ _ _ _ rfl rfl rfl HR.out ?_; clear HR)
      exact ⟨⟨4, rfl, by decide, hS'⟩, by simp [intOf]⟩
    · have hC := hS.join 46 (by simp) (fun x hx => by
        simp at hx
        rcases hx with rfl | rfl | rfl | rfl
        · exact itoa_len h0
        · exact itoa_len h1
        · exact itoa_len h2
        · exact itoa_len h3)
      go_wp2_with fail
      refine hC.mono ?_
      rintro e W1 ⟨rfl, hb⟩
      go_wp2
      go_ret
      exact ⟨rfl, (hB1.trans (hS.below.mono hB1.size)).trans (hb.mono (Nat.le_trans hB1.size hS.below.size))⟩
end Go.Proofs.YtopbbljnhnhpaaaDoor

namespace Go.Proofs.YtopbbljnhnhpaaaDoor
open Go Go.RowKit
set_option linter.unusedVariables false
set_option linter.unusedSimpArgs false

set_option maxRecDepth 100000 in
theorem tz16 (w : World) (hc : w.cell? ⟨3, 15, none⟩ = some (.int .u8 4)) :
    Calls Tryd.prog 102 #[.int .u64 16] w fun e w' => e = .returned (.int .i64 4) ∧ w' = w := by
  have e1 : IntKind.u64.wrap (-16) = 18446744073709551600 := by decide
  have e2 : bits .and .u64 16 18446744073709551600 = 16 := by kernel_rfl
  have e3 : IntKind.u64.wrap (16 * 285870213051353865) = 4573923408821661840 := by decide
  have e4 : IntKind.u64.wrap 4573923408821661840 = 4573923408821661840 := by decide
  go_enter Tryd.func102, Tryd.ntmps102
  go_wp2
  go_ret
  exact ⟨rfl, rfl⟩

set_option maxRecDepth 100000 in
theorem tz (w : World) (hc : w.cell? ⟨3, 15, none⟩ = some (.int .u8 4)) :
    Calls Tryd.prog 100 #[.int .u64 16] w fun e w' => e = .returned (.int .i64 4) ∧ w' = w := by
  go_enter Tryd.func100, Tryd.ntmps100
  go_wp2_with fail
  refine (tz16 w hc).mono ?_
  rintro e w' ⟨rfl, rfl⟩
  go_wp2
  go_ret
  exact ⟨rfl, rfl⟩

set_option maxRecDepth 100000 in
theorem pow2 (w : World) : Calls Tryd.prog 99 #[.int .i64 16] w fun e w' => e = .returned (.bool true) ∧ w' = w := by
  go_enter Tryd.func99, Tryd.ntmps99
  go_wp2
  go_ret
  exact ⟨rfl, rfl⟩

end Go.Proofs.YtopbbljnhnhpaaaDoor

namespace Go.Proofs.YtopbbljnhnhpaaaDoor
open Go Go.RowKit
set_option linter.unusedVariables false
set_option linter.unusedSimpArgs false

theorem push_all : ∀ (zs : List Int) (s : ByteArray), zs.foldl (fun r n => r.push (UInt8.ofNat n.toNat)) s = ⟨s.data ++ (zs.map (fun z => UInt8.ofNat z.toNat)).toArray⟩
  | [], s => by simp
  | z :: r, s => by
    rw [List.foldl_cons, push_all r]
    simp [ByteArray.push]

theorem conv_str (W : World) (b o n c : Nat) (zs : List Int) (hn : zs.length = n) (hc : ∀ (j : Nat) z, zs[j]? = some z → W.cell? ⟨b, o + j, none⟩ = some (.int .u8 z)) :
    (convert 81 9 (.slice (some ⟨b, o, none⟩) n c)).run Tryd.prog W = .ok (.string ⟨(zs.map (fun z => UInt8.ofNat z.toNat)).toArray⟩) W := by
  rw [run_convert_bytes_string W _ _ _ _ _ _ Tryd.underlying81 Tryd.underlying5 Tryd.underlying9]
  have hl := run_loadCells_list (P := Tryd.prog) W ⟨b, o, none⟩ (zs.map (fun z => Value.int .u8 z)) (fun j v hj => by
    rw [Go.WideShapes.add_plain]
    rw [List.getElem?_map] at hj
    cases hz : zs[j]? with
    | none => simp [hz] at hj
    | some z => simp [hz] at hj; subst hj; exact hc j z hz)
  rw [List.length_map, hn] at hl
  rw [run_bytesToString W _ n c zs hl, push_all]
  simp

/-- The digit that counts k. -/
def hexd (k : Nat) : UInt8 := ((#[48, 49, 50, 51, 52, 53, 54, 55, 56, 57, 97, 98, 99, 100, 101, 102] : Array UInt8)[k]?).getD 0

theorem digits_at (k : Nat) (hk : k < 16) (h : k < (⟨#[48, 49, 50, 51, 52, 53, 54, 55, 56, 57, 97, 98, 99, 100, 101, 102, 103, 104, 105, 106, 107, 108, 109, 110, 111, 112, 113, 114, 115, 116, 117, 118, 119, 120, 121, 122]⟩ : ByteArray).size) :
    (⟨#[48, 49, 50, 51, 52, 53, 54, 55, 56, 57, 97, 98, 99, 100, 101, 102, 103, 104, 105, 106, 107, 108, 109, 110, 111, 112, 113, 114, 115, 116, 117, 118, 119, 120, 121, 122]⟩ : ByteArray)[k] = hexd k := by
  match k, hk with
  | 0, _ => rfl
  | 1, _ => rfl
  | 2, _ => rfl
  | 3, _ => rfl
  | 4, _ => rfl
  | 5, _ => rfl
  | 6, _ => rfl
  | 7, _ => rfl
  | 8, _ => rfl
  | 9, _ => rfl
  | 10, _ => rfl
  | 11, _ => rfl
  | 12, _ => rfl
  | 13, _ => rfl
  | 14, _ => rfl
  | 15, _ => rfl
  | n + 16, h => exact absurd h (by omega)

theorem and15 (x : Int) (h0 : 0 ≤ x) (h1 : x < 18446744073709551616) : bits .and .u64 x 15 = x % 16 := by
  rw [u64_and x 15 h0 h1 (by decide) (by decide)]
  have e : (x.toNat &&& (15 : Int).toNat) = x.toNat % 2 ^ 4 := by
    rw [show ((15 : Int).toNat) = 2 ^ 4 - 1 from rfl, Nat.and_two_pow_sub_one_eq_mod]
  rw [e]
  omega

set_option maxHeartbeats 4000000 in
set_option maxRecDepth 100000 in
theorem bits16_one (u : Int) (hu : 0 ≤ u ∧ u < 16) (w : World) (hc : w.cell? ⟨3, 15, none⟩ = some (.int .u8 4)) (hlt : 3 < w.heap.size) :
    Calls Tryd.prog 92 #[.slice none 0 0, .int .u64 u, .int .i64 16, .bool false, .bool false] w fun e w' => e = .returned (.tuple #[.slice none 0 0, .string ⟨#[hexd u.toNat]⟩]) ∧ Below w.heap.size w w' := by
  have ha : ∀ o, (w.alloc o).cell? ⟨3, 15, none⟩ = some (.int .u8 4) := fun o => (World.cell?_alloc_lt _ _ _ hlt).trans hc
  have hz65 : Tryd.zeroCells145.size = 65 := by kernel_rfl
  have q0 : decide (16 ≤ u) = false := by simp; omega
  go_enter Tryd.func92, Tryd.ntmps92
  go_wp2_with (first
    | (go_at_call 99; refine (pow2 _).mono ?_; rintro e w' ⟨rfl, rfl⟩)
    | (go_at_call 100; refine (tz _ (ha _)).mono ?_; rintro e w' ⟨rfl, rfl⟩))
  go_rounds 1
  all_goals
    rw [digits_at u.toNat (by omega)]
    rw [conv_str _ _ 64 1 1 [((hexd u.toNat).toNat : Int)] rfl (fun j z hj => by
      match j, hj with
      | 0, hj =>
        cases hj
        rw [World.cell?_alloc_new]
        simp [Array.getElem?_setIfInBounds, hz65]
      | n + 1, hj => simp at hj)]
    go_wp2
    go_ret2
    exact ⟨rfl, (Below.refl _ w).alloc (Nat.le_refl _) _⟩

set_option maxHeartbeats 4000000 in
set_option maxRecDepth 100000 in
theorem bits16_two (u : Int) (hu : 16 ≤ u ∧ u < 256) (w : World) (hc : w.cell? ⟨3, 15, none⟩ = some (.int .u8 4)) (hlt : 3 < w.heap.size) :
    Calls Tryd.prog 92 #[.slice none 0 0, .int .u64 u, .int .i64 16, .bool false, .bool false] w fun e w' => e = .returned (.tuple #[.slice none 0 0, .string ⟨#[hexd (u / 16).toNat, hexd (u % 16).toNat]⟩]) ∧ Below w.heap.size w w' := by
  have ha : ∀ o, (w.alloc o).cell? ⟨3, 15, none⟩ = some (.int .u8 4) := fun o => (World.cell?_alloc_lt _ _ _ hlt).trans hc
  have hz65 : Tryd.zeroCells145.size = 65 := by kernel_rfl
  have q0 : decide (16 ≤ u) = true := by simp; omega
  have n0 : bits .and .u64 u 15 = u % 16 := and15 _ (by omega) (by omega)
  have q1 : decide (16 ≤ u / 16) = false := by simp; omega
  go_enter Tryd.func92, Tryd.ntmps92
  go_wp2_with (first
    | (go_at_call 99; refine (pow2 _).mono ?_; rintro e w' ⟨rfl, rfl⟩)
    | (go_at_call 100; refine (tz _ (ha _)).mono ?_; rintro e w' ⟨rfl, rfl⟩))
  go_rounds 2
  all_goals
    rw [digits_at (u % 16).toNat (by omega)]
    rw [digits_at (u / 16).toNat (by omega)]
    rw [conv_str _ _ 63 2 2 [((hexd (u / 16).toNat).toNat : Int), ((hexd (u % 16).toNat).toNat : Int)] rfl (fun j z hj => by
      match j, hj with
      | 0, hj =>
        cases hj
        rw [World.cell?_alloc_new]
        simp [Array.getElem?_setIfInBounds, hz65]
      | 1, hj =>
        cases hj
        rw [World.cell?_alloc_new]
        simp [Array.getElem?_setIfInBounds, hz65]
      | n + 2, hj => simp at hj)]
    go_wp2
    go_ret2
    exact ⟨rfl, (Below.refl _ w).alloc (Nat.le_refl _) _⟩

set_option maxHeartbeats 4000000 in
set_option maxRecDepth 100000 in
theorem bits16_three (u : Int) (hu : 256 ≤ u ∧ u < 4096) (w : World) (hc : w.cell? ⟨3, 15, none⟩ = some (.int .u8 4)) (hlt : 3 < w.heap.size) :
    Calls Tryd.prog 92 #[.slice none 0 0, .int .u64 u, .int .i64 16, .bool false, .bool false] w fun e w' => e = .returned (.tuple #[.slice none 0 0, .string ⟨#[hexd ((u / 16) / 16).toNat, hexd ((u / 16) % 16).toNat, hexd (u % 16).toNat]⟩]) ∧ Below w.heap.size w w' := by
  have ha : ∀ o, (w.alloc o).cell? ⟨3, 15, none⟩ = some (.int .u8 4) := fun o => (World.cell?_alloc_lt _ _ _ hlt).trans hc
  have hz65 : Tryd.zeroCells145.size = 65 := by kernel_rfl
  have q0 : decide (16 ≤ u) = true := by simp; omega
  have n0 : bits .and .u64 u 15 = u % 16 := and15 _ (by omega) (by omega)
  have q1 : decide (16 ≤ u / 16) = true := by simp; omega
  have n1 : bits .and .u64 (u / 16) 15 = (u / 16) % 16 := and15 _ (by omega) (by omega)
  have q2 : decide (16 ≤ (u / 16) / 16) = false := by simp; omega
  go_enter Tryd.func92, Tryd.ntmps92
  go_wp2_with (first
    | (go_at_call 99; refine (pow2 _).mono ?_; rintro e w' ⟨rfl, rfl⟩)
    | (go_at_call 100; refine (tz _ (ha _)).mono ?_; rintro e w' ⟨rfl, rfl⟩))
  go_rounds 3
  all_goals
    rw [digits_at (u % 16).toNat (by omega)]
    rw [digits_at ((u / 16) % 16).toNat (by omega)]
    rw [digits_at ((u / 16) / 16).toNat (by omega)]
    rw [conv_str _ _ 62 3 3 [((hexd ((u / 16) / 16).toNat).toNat : Int), ((hexd ((u / 16) % 16).toNat).toNat : Int), ((hexd (u % 16).toNat).toNat : Int)] rfl (fun j z hj => by
      match j, hj with
      | 0, hj =>
        cases hj
        rw [World.cell?_alloc_new]
        simp [Array.getElem?_setIfInBounds, hz65]
      | 1, hj =>
        cases hj
        rw [World.cell?_alloc_new]
        simp [Array.getElem?_setIfInBounds, hz65]
      | 2, hj =>
        cases hj
        rw [World.cell?_alloc_new]
        simp [Array.getElem?_setIfInBounds, hz65]
      | n + 3, hj => simp at hj)]
    go_wp2
    go_ret2
    exact ⟨rfl, (Below.refl _ w).alloc (Nat.le_refl _) _⟩

set_option maxHeartbeats 4000000 in
set_option maxRecDepth 100000 in
theorem bits16_four (u : Int) (hu : 4096 ≤ u ∧ u < 65536) (w : World) (hc : w.cell? ⟨3, 15, none⟩ = some (.int .u8 4)) (hlt : 3 < w.heap.size) :
    Calls Tryd.prog 92 #[.slice none 0 0, .int .u64 u, .int .i64 16, .bool false, .bool false] w fun e w' => e = .returned (.tuple #[.slice none 0 0, .string ⟨#[hexd (((u / 16) / 16) / 16).toNat, hexd (((u / 16) / 16) % 16).toNat, hexd ((u / 16) % 16).toNat, hexd (u % 16).toNat]⟩]) ∧ Below w.heap.size w w' := by
  have ha : ∀ o, (w.alloc o).cell? ⟨3, 15, none⟩ = some (.int .u8 4) := fun o => (World.cell?_alloc_lt _ _ _ hlt).trans hc
  have hz65 : Tryd.zeroCells145.size = 65 := by kernel_rfl
  have q0 : decide (16 ≤ u) = true := by simp; omega
  have n0 : bits .and .u64 u 15 = u % 16 := and15 _ (by omega) (by omega)
  have q1 : decide (16 ≤ u / 16) = true := by simp; omega
  have n1 : bits .and .u64 (u / 16) 15 = (u / 16) % 16 := and15 _ (by omega) (by omega)
  have q2 : decide (16 ≤ (u / 16) / 16) = true := by simp; omega
  have n2 : bits .and .u64 ((u / 16) / 16) 15 = ((u / 16) / 16) % 16 := and15 _ (by omega) (by omega)
  have q3 : decide (16 ≤ ((u / 16) / 16) / 16) = false := by simp; omega
  go_enter Tryd.func92, Tryd.ntmps92
  go_wp2_with (first
    | (go_at_call 99; refine (pow2 _).mono ?_; rintro e w' ⟨rfl, rfl⟩)
    | (go_at_call 100; refine (tz _ (ha _)).mono ?_; rintro e w' ⟨rfl, rfl⟩))
  go_rounds 4
  all_goals
    rw [digits_at (u % 16).toNat (by omega)]
    rw [digits_at ((u / 16) % 16).toNat (by omega)]
    rw [digits_at (((u / 16) / 16) % 16).toNat (by omega)]
    rw [digits_at (((u / 16) / 16) / 16).toNat (by omega)]
    rw [conv_str _ _ 61 4 4 [((hexd (((u / 16) / 16) / 16).toNat).toNat : Int), ((hexd (((u / 16) / 16) % 16).toNat).toNat : Int), ((hexd ((u / 16) % 16).toNat).toNat : Int), ((hexd (u % 16).toNat).toNat : Int)] rfl (fun j z hj => by
      match j, hj with
      | 0, hj =>
        cases hj
        rw [World.cell?_alloc_new]
        simp [Array.getElem?_setIfInBounds, hz65]
      | 1, hj =>
        cases hj
        rw [World.cell?_alloc_new]
        simp [Array.getElem?_setIfInBounds, hz65]
      | 2, hj =>
        cases hj
        rw [World.cell?_alloc_new]
        simp [Array.getElem?_setIfInBounds, hz65]
      | 3, hj =>
        cases hj
        rw [World.cell?_alloc_new]
        simp [Array.getElem?_setIfInBounds, hz65]
      | n + 4, hj => simp at hj)]
    go_wp2
    go_ret2
    exact ⟨rfl, (Below.refl _ w).alloc (Nat.le_refl _) _⟩

end Go.Proofs.YtopbbljnhnhpaaaDoor

namespace Go.Proofs.YtopbbljnhnhpaaaDoor
open Go Go.RowKit
set_option linter.unusedVariables false
set_option linter.unusedSimpArgs false

/-- A number below 65536 in hex digits. -/
def hexText (u : Int) : List UInt8 :=
  if u < 16 then [hexd u.toNat] else if u < 256 then [hexd (u / 16).toNat, hexd (u % 16).toNat]
  else if u < 4096 then [hexd (u / 16 / 16).toNat, hexd (u / 16 % 16).toNat, hexd (u % 16).toNat]
  else [hexd (u / 16 / 16 / 16).toNat, hexd (u / 16 / 16 % 16).toNat, hexd (u / 16 % 16).toNat, hexd (u % 16).toNat]

theorem bits16 (u : Int) (hu : 0 ≤ u ∧ u < 65536) (w : World) (hc : w.cell? ⟨3, 15, none⟩ = some (.int .u8 4)) (hlt : 3 < w.heap.size) :
    Calls Tryd.prog 92 #[.slice none 0 0, .int .u64 u, .int .i64 16, .bool false, .bool false] w fun e w' => e = .returned (.tuple #[.slice none 0 0, .string ⟨(hexText u).toArray⟩]) ∧ Below w.heap.size w w' := by
  unfold hexText
  split
  · exact bits16_one u (by omega) w hc hlt
  · split
    · exact bits16_two u (by omega) w hc hlt
    · split
      · exact bits16_three u (by omega) w hc hlt
      · exact bits16_four u (by omega) w hc hlt

set_option maxRecDepth 100000 in
theorem uint16_in (u : Int) (hu : 0 ≤ u ∧ u < 65536) (w : World) (hc : w.cell? ⟨3, 15, none⟩ = some (.int .u8 4)) (hlt : 3 < w.heap.size) :
    Calls Tryd.prog 88 #[.int .u64 u, .int .i64 16] w fun e w' => e = .returned (.string ⟨(hexText u).toArray⟩) ∧ Below w.heap.size w w' := by
  have hC := bits16 u hu w hc hlt
  generalize hexText u = t at hC ⊢
  go_enter Tryd.func88, Tryd.ntmps88
  go_wp2_with fail
  refine hC.mono ?_
  rintro e w' ⟨rfl, hb⟩
  go_wp2
  go_ret
  exact ⟨rfl, hb⟩

set_option maxRecDepth 100000 in
theorem uint16_calls (u : Int) (hu : 0 ≤ u ∧ u < 65536) (w : World) (hc : w.cell? ⟨3, 15, none⟩ = some (.int .u8 4)) (hlt : 3 < w.heap.size) :
    Calls Tryd.prog 80 #[.int .u64 u, .int .i64 16] w fun e w' => e = .returned (.string ⟨(hexText u).toArray⟩) ∧ Below w.heap.size w w' := by
  have hC := uint16_in u hu w hc hlt
  generalize hexText u = t at hC ⊢
  go_enter Tryd.func80, Tryd.ntmps80
  go_wp2_with fail
  refine hC.mono ?_
  rintro e w' ⟨rfl, hb⟩
  go_wp2
  go_ret
  exact ⟨rfl, hb⟩

set_option maxHeartbeats 4000000 in
set_option maxRecDepth 100000 in
theorem groups_known (w : World) : Calls Tryd.prog 59 #[.agg #[.int .u8 32, .int .u8 1, .int .u8 13, .int .u8 184, .int .u8 0, .int .u8 0, .int .u8 0, .int .u8 0, .int .u8 0, .int .u8 0, .int .u8 0, .int .u8 0, .int .u8 0, .int .u8 0, .int .u8 0, .int .u8 1]] w fun e w' => e = .returned (.agg #[.int .u16 8193, .int .u16 3512, .int .u16 0, .int .u16 0, .int .u16 0, .int .u16 0, .int .u16 0, .int .u16 1]) ∧ Below w.heap.size w w' := by
  go_enter Tryd.func59, Tryd.ntmps59
  go_wp2
  refine wp_loop_rounds 9 ?_
  iterate 8 (rw [rounds_succ]; go_wp2; go_region; go_wp2)
  rw [rounds_succ]
  go_wp2
  go_returns
  refine ⟨by kernel_rfl, ?_⟩
  go_grown

set_option maxHeartbeats 4000000 in
set_option maxRecDepth 100000 in
theorem hexes_calls (zs : List Int) (hz : ∀ z ∈ zs, 0 ≤ z ∧ z < 65536) (hl : zs.length ≤ 8) (b o c : Nat) (w : World) (ht : ∀ w', Below w.heap.size w w' → w'.cell? ⟨3, 15, none⟩ = some (.int .u8 4)) (hlt : 3 < w.heap.size) (hb : b < w.heap.size)
    (hcell : ∀ (j : Nat) z, zs[j]? = some z → w.cell? ⟨b, o + j, none⟩ = some (.int .u16 z)) :
    Calls Tryd.prog 61 #[.slice (some ⟨b, o, none⟩) zs.length c] w fun e w' => e = .returned (.string ⟨(Lib.join (zs.map hexText) [58]).toArray⟩) ∧ Below w.heap.size w w' := by
  have HT : Hid _ := ht
  have HC : Hid _ := hcell
  have HZ : Hid _ := hz
  clear ht hcell hz
  obtain ⟨n, hn⟩ : ∃ n, n = zs.length := ⟨_, rfl⟩
  rw [← hn] at hl ⊢
  have HN : Hid _ := hn
  clear hn
  go_enter Tryd.func61, Tryd.ntmps61
  go_wp2_with fail
  go_loopw [3, 8] (fun v3 v8 wr => ∃ (k : Nat), v8 = .int .i64 k ∧ k ≤ n ∧ Strs w ((zs.take k).map hexText) v3 wr) (fun _ v8 _ => n - (intOf v8).toNat)
  case atStart => exact ⟨0, rfl, by omega, ⟨World.ownsRow_nil _ _ _ _, Below.refl _ _⟩⟩
  case round =>
    obtain ⟨k, rfl, hk, hS⟩ := hrel
    by_cases hkn : k < n
    · have hN := HN.out
      have hzk := HZ.out zs[k] (List.getElem_mem _)
      have hck := (hS.below.cell (p := ⟨b, o + k, none⟩) hb).trans (HC.out k zs[k] (by simp [show k < zs.length by omega]))
      have hS2 : Strs w ((zs.take k).map hexText ++ [hexText zs[k]]) u3 wr → True := fun _ => trivial
      have htake : (zs.take (k + 1)).map hexText = (zs.take k).map hexText ++ [hexText zs[k]] := by
        rw [List.take_add_one, List.getElem?_eq_getElem (by omega), List.map_append]
        rfl
      generalize zs[k] = z at hzk hck htake
      clear hN hS2
      have hC := uint16_calls z hzk wr (HT.out wr hS.below) (Nat.lt_of_lt_of_le hlt hS.below.size)
      go_wp2_with fail
      refine hC.mono ?_
      rintro e W1 ⟨rfl, hbb⟩
      clear hC
      have hlk : ((zs.take k).map hexText).length ≤ 1000 := by simp; omega
      obtain ⟨v', X', hrun, hS'⟩ := (hS.kept hbb).add (hexText z) hlk 76
      have HR : Hid _ := hrun
      clear hrun
      go_wp2_with (at_builtin; refine wpList_append_run rfl _ _ _ _ rfl rfl rfl HR.out ?_; clear HR)
      rw [← htake] at hS'
      refine ⟨⟨k + 1, by simp, by omega, hS'⟩, by simp [intOf]; omega⟩
    · have hN := HN.out
      have hall : zs.take k = zs := List.take_of_length_le (by omega)
      rw [hall] at hS
      have hC := hS.join 58 (by simp; omega) (fun x hx => by
        simp at hx
        obtain ⟨z, hz, rfl⟩ := hx
        unfold hexText
        split
        · simp
        · split
          · simp
          · split <;> simp)
      clear hN
      go_wp2_with fail
      refine hC.mono ?_
      rintro e W1 ⟨rfl, hbb⟩
      go_wp2
      go_ret
      exact ⟨rfl, hS.below.trans (hbb.mono hS.below.size)⟩

set_option maxHeartbeats 4000000 in
set_option maxRecDepth 100000 in
theorem gap_known (b : Nat) (w : World) (c0 : w.cell? ⟨b, 0, none⟩ = some (.int .u16 8193)) (c1 : w.cell? ⟨b, 1, none⟩ = some (.int .u16 3512)) (c2 : w.cell? ⟨b, 2, none⟩ = some (.int .u16 0)) (c3 : w.cell? ⟨b, 3, none⟩ = some (.int .u16 0))
    (c4 : w.cell? ⟨b, 4, none⟩ = some (.int .u16 0)) (c5 : w.cell? ⟨b, 5, none⟩ = some (.int .u16 0)) (c6 : w.cell? ⟨b, 6, none⟩ = some (.int .u16 0)) (c7 : w.cell? ⟨b, 7, none⟩ = some (.int .u16 1)) :
    Calls Tryd.prog 60 #[.slice (some ⟨b, 0, none⟩) 8 8] w fun e w' => e = .returned (.tuple #[.int .i64 2, .int .i64 7]) ∧ w' = w := by
  go_enter Tryd.func60, Tryd.ntmps60
  go_wp2
  go_rounds 9
  all_goals go_ret2
  all_goals exact ⟨rfl, rfl⟩

end Go.Proofs.YtopbbljnhnhpaaaDoor

namespace Go.Proofs.YtopbbljnhnhpaaaDoor
open Go Go.RowKit
set_option linter.unusedVariables false
set_option linter.unusedSimpArgs false

/-- The table of trailing zeros, whatever is laid above. -/
def Tz (w : World) : Prop := 3 < w.heap.size ∧ ∀ w', Below w.heap.size w w' → w'.cell? ⟨3, 15, none⟩ = some (.int .u8 4)

theorem Tz.on {w w' : World} (h : Tz w) (hb : Below w.heap.size w w') : Tz w' := ⟨Nat.lt_of_lt_of_le h.1 hb.size, fun x hx => h.2 x (hb.trans (hx.mono hb.size))⟩

theorem hexA (b c : Nat) (w : World) (ht : Tz w) (hb : b < w.heap.size) (c0 : w.cell? ⟨b, 0, none⟩ = some (.int .u16 8193)) (c1 : w.cell? ⟨b, 1, none⟩ = some (.int .u16 3512)) :
    Calls Tryd.prog 61 #[.slice (some ⟨b, 0, none⟩) 2 c] w fun e w' => e = .returned (.string ⟨#[50, 48, 48, 49, 58, 100, 98, 56]⟩) ∧ Below w.heap.size w w' := by
  have h := hexes_calls [8193, 3512] (by decide) (by decide) b 0 c w ht.2 ht.1 hb (fun j z hj => by
    match j, hj with
    | 0, hj => cases hj; exact c0
    | 1, hj => cases hj; exact c1
    | n + 2, hj => simp at hj)
  have e : Lib.join (([8193, 3512] : List Int).map hexText) [58] = [50, 48, 48, 49, 58, 100, 98, 56] := by kernel_rfl
  rw [e] at h
  exact h

theorem hexB (b c : Nat) (w : World) (ht : Tz w) (hb : b < w.heap.size) (c7 : w.cell? ⟨b, 7, none⟩ = some (.int .u16 1)) :
    Calls Tryd.prog 61 #[.slice (some ⟨b, 7, none⟩) 1 c] w fun e w' => e = .returned (.string ⟨#[49]⟩) ∧ Below w.heap.size w w' := by
  have h := hexes_calls [1] (by decide) (by decide) b 7 c w ht.2 ht.1 hb (fun j z hj => by
    match j, hj with
    | 0, hj => cases hj; exact c7
    | n + 1, hj => simp at hj)
  have e : Lib.join (([1] : List Int).map hexText) [58] = [49] := by kernel_rfl
  rw [e] at h
  exact h

def known6V : Value := .agg #[.int .u8 32, .int .u8 1, .int .u8 13, .int .u8 184, .int .u8 0, .int .u8 0, .int .u8 0, .int .u8 0, .int .u8 0, .int .u8 0, .int .u8 0, .int .u8 0, .int .u8 0, .int .u8 0, .int .u8 0, .int .u8 1]

set_option maxHeartbeats 2000000 in
set_option maxRecDepth 100000 in
theorem text6_known (w : World) (ht : Tz w) : Calls Tryd.prog 20 #[known6V] w fun e w' => e = .returned (.string ⟨#[50, 48, 48, 49, 58, 100, 98, 56, 58, 58, 49]⟩) ∧ Below w.heap.size w w' := by
  unfold known6V
  have HT : Hid _ := ht
  clear ht
  go_enter Tryd.func20, Tryd.ntmps20
  go_wp2_with fail
  refine (groups_known _).mono ?_
  rintro e w1 ⟨rfl, hB1⟩
  have h0 := (Below.refl w.heap.size w).alloc (Nat.le_refl _) (.cells #[.int .u8 32, .int .u8 1, .int .u8 13, .int .u8 184, .int .u8 0, .int .u8 0, .int .u8 0, .int .u8 0, .int .u8 0, .int .u8 0, .int .u8 0, .int .u8 0, .int .u8 0, .int .u8 0, .int .u8 0, .int .u8 1] 31)
  have hB := h0.trans (hB1.mono h0.size)
  clear h0 hB1
  go_wp2_with fail
  have hB2 := hB.alloc hB.size (.cells #[.int .u16 8193, .int .u16 3512, .int .u16 0, .int .u16 0, .int .u16 0, .int .u16 0, .int .u16 0, .int .u16 1] 94)
  have hg : w1.heap.size < (w1.alloc (.cells #[.int .u16 8193, .int .u16 3512, .int .u16 0, .int .u16 0, .int .u16 0, .int .u16 0, .int .u16 0, .int .u16 1] 94)).heap.size := by simp
  have hc : ∀ j v, (#[Value.int .u16 8193, .int .u16 3512, .int .u16 0, .int .u16 0, .int .u16 0, .int .u16 0, .int .u16 0, .int .u16 1] : Array Value)[j]? = some v → (w1.alloc (.cells #[.int .u16 8193, .int .u16 3512, .int .u16 0, .int .u16 0, .int .u16 0, .int .u16 0, .int .u16 0, .int .u16 1] 94)).cell? ⟨w1.heap.size, j, none⟩ = some v := by
    intro j v hj
    rw [World.cell?_alloc_new]
    simpa using hj
  generalize w1.alloc (.cells #[.int .u16 8193, .int .u16 3512, .int .u16 0, .int .u16 0, .int .u16 0, .int .u16 0, .int .u16 0, .int .u16 1] 94) = w2 at *
  generalize w1.heap.size = g at *
  have c0 := hc 0 _ rfl
  have c1 := hc 1 _ rfl
  have c7 := hc 7 _ rfl
  have hgap := gap_known g w2 c0 c1 (hc 2 _ rfl) (hc 3 _ rfl) (hc 4 _ rfl) (hc 5 _ rfl) (hc 6 _ rfl) c7
  have hTz : Tz w2 := Tz.on HT.out hB2
  have hA : ∀ W, Below w2.heap.size w2 W → Calls Tryd.prog 61 #[.slice (some ⟨g, 0, none⟩) 2 8] W fun e w' => e = .returned (.string ⟨#[50, 48, 48, 49, 58, 100, 98, 56]⟩) ∧ Below W.heap.size W w' := fun W hW =>
    hexA g 8 W (hTz.on hW) (Nat.lt_of_lt_of_le hg hW.size) ((hW.cell (p := ⟨g, 0, none⟩) hg).trans c0) ((hW.cell (p := ⟨g, 1, none⟩) hg).trans c1)
  have hD : ∀ W, Below w2.heap.size w2 W → Calls Tryd.prog 61 #[.slice (some ⟨g, 7, none⟩) 1 1] W fun e w' => e = .returned (.string ⟨#[49]⟩) ∧ Below W.heap.size W w' := fun W hW =>
    hexB g 1 W (hTz.on hW) (Nat.lt_of_lt_of_le hg hW.size) ((hW.cell (p := ⟨g, 7, none⟩) hg).trans c7)
  have HG : Hid _ := hgap
  have HA : Hid _ := hA
  have HD : Hid _ := hD
  clear hc c0 c1 c7 hgap hTz hA hD hg hB
  refine Calls.mono HG.out ?_
  rintro e w3 ⟨rfl, rfl⟩
  go_wp2_with fail
  go_region_with (first
    | (go_at_call_of 61 (Value.slice (some { block := g, off := 0 }) 2 8); refine Calls.mono (HA.out _ ?_) ?_; (first | exact BB | exact (Below.refl _ _).drew); rintro e wa ⟨rfl, hBa⟩; (first | have BC := BB.trans (hBa.mono BB.size) | have BB := ((Below.refl _ _).drew).trans hBa))
    | (go_at_call_of 61 (Value.slice (some { block := g, off := 7 }) 1 1); refine Calls.mono (HD.out _ ?_) ?_; (first | exact BB | exact (Below.refl _ _).drew); rintro e wb ⟨rfl, hBb⟩; (first | have BC := BB.trans (hBb.mono BB.size) | have BB := ((Below.refl _ _).drew).trans hBb)))
  all_goals
    go_wp2
    go_ret
    exact ⟨rfl, hB2.trans (BC.mono hB2.size)⟩

end Go.Proofs.YtopbbljnhnhpaaaDoor
