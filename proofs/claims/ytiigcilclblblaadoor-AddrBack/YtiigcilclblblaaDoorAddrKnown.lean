/-
  The own text of one known address.
-/
import Derived.Test.YtiigcilclblblaaDoorAddrHexb
namespace Go.Proofs.YtiigcilclblblaaDoor
open Go Go.RowKit
set_option linter.unusedVariables false
set_option linter.unusedSimpArgs false

/-- A number below 65536 in hex digits. -/
def hexText (u : Int) : List UInt8 :=
  if u < 16 then [hexd u.toNat] else if u < 256 then [hexd (u / 16).toNat, hexd (u % 16).toNat]
  else if u < 4096 then [hexd (u / 16 / 16).toNat, hexd (u / 16 % 16).toNat, hexd (u % 16).toNat]
  else [hexd (u / 16 / 16 / 16).toNat, hexd (u / 16 / 16 % 16).toNat, hexd (u / 16 % 16).toNat, hexd (u % 16).toNat]

theorem bits16 (u : Int) (hu : 0 ≤ u ∧ u < 65536) (w : World) (hc : w.cell? ⟨3, 15, none⟩ = some (.int .u8 4)) (hlt : 3 < w.heap.size) :
    Calls Tryd.prog 92 #[.slice none 0 0, .int .u64 u, .int .i64 16, .bool false, .bool false] w fun e w' => e = .returned (.tuple #[.slice none 0 0, .string ⟨(hexText u).toArray⟩]) ∧ Below w.heap.size w w' := by
  unfold hexText
  split
  · exact bits16_one u (by omega) w hc hlt
  · split
    · exact bits16_two u (by omega) w hc hlt
    · split
      · exact bits16_three u (by omega) w hc hlt
      · exact bits16_four u (by omega) w hc hlt

set_option maxRecDepth 100000 in
theorem uint16_in (u : Int) (hu : 0 ≤ u ∧ u < 65536) (w : World) (hc : w.cell? ⟨3, 15, none⟩ = some (.int .u8 4)) (hlt : 3 < w.heap.size) :
    Calls Tryd.prog 88 #[.int .u64 u, .int .i64 16] w fun e w' => e = .returned (.string ⟨(hexText u).toArray⟩) ∧ Below w.heap.size w w' := by
  have hC := bits16 u hu w hc hlt
  generalize hexText u = t at hC ⊢
  go_enter Tryd.func88, Tryd.ntmps88
  go_wp2_with fail
  refine hC.mono ?_
  rintro e w' ⟨rfl, hb⟩
  go_wp2
  go_ret
  exact ⟨rfl, hb⟩

set_option maxRecDepth 100000 in
theorem uint16_calls (u : Int) (hu : 0 ≤ u ∧ u < 65536) (w : World) (hc : w.cell? ⟨3, 15, none⟩ = some (.int .u8 4)) (hlt : 3 < w.heap.size) :
    Calls Tryd.prog 80 #[.int .u64 u, .int .i64 16] w fun e w' => e = .returned (.string ⟨(hexText u).toArray⟩) ∧ Below w.heap.size w w' := by
  have hC := uint16_in u hu w hc hlt
  generalize hexText u = t at hC ⊢
  go_enter Tryd.func80, Tryd.ntmps80
  go_wp2_with fail
  refine hC.mono ?_
  rintro e w' ⟨rfl, hb⟩
  go_wp2
  go_ret
  exact ⟨rfl, hb⟩

set_option maxHeartbeats 4000000 in
set_option maxRecDepth 100000 in
theorem groups_known (w : World) : Calls Tryd.prog 59 #[.agg #[.int .u8 32, .int .u8 1, .int .u8 13, .int .u8 184, .int .u8 0, .int .u8 0, .int .u8 0, .int .u8 0, .int .u8 0, .int .u8 0, .int .u8 0, .int .u8 0, .int .u8 0, .int .u8 0, .int .u8 0, .int .u8 1]] w fun e w' => e = .returned (.agg #[.int .u16 8193, .int .u16 3512, .int .u16 0, .int .u16 0, .int .u16 0, .int .u16 0, .int .u16 0, .int .u16 1]) ∧ Below w.heap.size w w' := by
  go_enter Tryd.func59, Tryd.ntmps59
  go_wp2
  refine wp_loop_rounds 9 ?_
  iterate 8 (rw [rounds_succ]; go_wp2; go_region; go_wp2)
  rw [rounds_succ]
  go_wp2
  go_returns
  refine ⟨by kernel_rfl, ?_⟩
  go_grown

set_option maxHeartbeats 4000000 in
set_option maxRecDepth 100000 in
theorem hexes_calls (zs : List Int) (hz : ∀ z ∈ zs, 0 ≤ z ∧ z < 65536) (hl : zs.length ≤ 8) (b o c : Nat) (w : World) (ht : ∀ w', Below w.heap.size w w' → w'.cell? ⟨3, 15, none⟩ = some (.int .u8 4)) (hlt : 3 < w.heap.size) (hb : b < w.heap.size)
    (hcell : ∀ (j : Nat) z, zs[j]? = some z → w.cell? ⟨b, o + j, none⟩ = some (.int .u16 z)) :
    Calls Tryd.prog 61 #[.slice (some ⟨b, o, none⟩) zs.length c] w fun e w' => e = .returned (.string ⟨(Lib.join (zs.map hexText) [58]).toArray⟩) ∧ Below w.heap.size w w' := by
  have HT : Hid _ := ht
  have HC : Hid _ := hcell
  have HZ : Hid _ := hz
  clear ht hcell hz
  obtain ⟨n, hn⟩ : ∃ n, n = zs.length := ⟨_, rfl⟩
  rw [← hn] at hl ⊢
  have HN : Hid _ := hn
  clear hn
  go_enter Tryd.func61, Tryd.ntmps61
  go_wp2_with fail
  go_loopw [3, 8] (fun v3 v8 wr => ∃ (k : Nat), v8 = .int .i64 k ∧ k ≤ n ∧ Strs w ((zs.take k).map hexText) v3 wr) (fun _ v8 _ => n - (intOf v8).toNat)
  case atStart => exact ⟨0, rfl, by omega, ⟨World.ownsRow_nil _ _ _ _, Below.refl _ _⟩⟩
  case round =>
    obtain ⟨k, rfl, hk, hS⟩ := hrel
    by_cases hkn : k < n
    · have hN := HN.out
      have hzk := HZ.out zs[k] (List.getElem_mem _)
      have hck := (hS.below.cell (p := ⟨b, o + k, none⟩) hb).trans (HC.out k zs[k] (by simp [show k < zs.length by omega]))
      have hS2 : Strs w ((zs.take k).map hexText ++ [hexText zs[k]]) u3 wr → True := fun _ => trivial
      have htake : (zs.take (k + 1)).map hexText = (zs.take k).map hexText ++ [hexText zs[k]] := by
        rw [List.take_add_one, List.getElem?_eq_getElem (by omega), List.map_append]
        rfl
      generalize zs[k] = z at hzk hck htake
      clear hN hS2
      have hC := uint16_calls z hzk wr (HT.out wr hS.below) (Nat.lt_of_lt_of_le hlt hS.below.size)
      go_wp2_with fail
      refine hC.mono ?_
      rintro e W1 ⟨rfl, hbb⟩
      clear hC
      have hlk : ((zs.take k).map hexText).length ≤ 1000 := by simp; omega
      obtain ⟨v', X', hrun, hS'⟩ := (hS.kept hbb).add (hexText z) hlk 76
      have HR : Hid _ := hrun
      clear hrun
      go_wp2_with (at_builtin; refine wpList_append_run rfl _ _ _ _ rfl rfl rfl HR.out ?_; clear HR)
      rw [← htake] at hS'
      refine ⟨⟨k + 1, by simp, by omega, hS'⟩, by simp [intOf]; omega⟩
    · have hN := HN.out
      have hall : zs.take k = zs := List.take_of_length_le (by omega)
      rw [hall] at hS
      have hC := hS.join 58 (by simp; omega) (fun x hx => by
        simp at hx
        obtain ⟨z, hz, rfl⟩ := hx
        unfold hexText
        split
        · simp
        · split
          · simp
          · split <;> simp)
      clear hN
      go_wp2_with fail
      refine hC.mono ?_
      rintro e W1 ⟨rfl, hbb⟩
      go_wp2
      go_ret
      exact ⟨rfl, hS.below.trans (hbb.mono hS.below.size)⟩

set_option maxHeartbeats 4000000 in
set_option maxRecDepth 100000 in
theorem gap_known (b : Nat) (w : World) (c0 : w.cell? ⟨b, 0, none⟩ = some (.int .u16 8193)) (c1 : w.cell? ⟨b, 1, none⟩ = some (.int .u16 3512)) (c2 : w.cell? ⟨b, 2, none⟩ = some (.int .u16 0)) (c3 : w.cell? ⟨b, 3, none⟩ = some (.int .u16 0))
    (c4 : w.cell? ⟨b, 4, none⟩ = some (.int .u16 0)) (c5 : w.cell? ⟨b, 5, none⟩ = some (.int .u16 0)) (c6 : w.cell? ⟨b, 6, none⟩ = some (.int .u16 0)) (c7 : w.cell? ⟨b, 7, none⟩ = some (.int .u16 1)) :
    Calls Tryd.prog 60 #[.slice (some ⟨b, 0, none⟩) 8 8] w fun e w' => e = .returned (.tuple #[.int .i64 2, .int .i64 7]) ∧ w' = w := by
  go_enter Tryd.func60, Tryd.ntmps60
  go_wp2
  go_rounds 9
  all_goals go_ret2
  all_goals exact ⟨rfl, rfl⟩

end Go.Proofs.YtiigcilclblblaaDoor
