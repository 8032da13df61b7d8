/-
  The statement PathmtuNobody.
-/
import Derived.Test.YtgndiblonhgihaaPnP
namespace Go.Proofs.Ytgndiblonhgihaa
open Go Go.RowKit Go.Lib
set_option linter.unusedVariables false
set_option linter.unusedSimpArgs false

set_option maxHeartbeats 8000000 in
set_option maxRecDepth 100000 in
theorem pathmtuNobody_walk {W : World} {d : List Int} (hd : K16 d) :
    Calls Try.prog 6 #[.agg (u8s d).toArray] W fun e w' => e = .returned (.bool true) ∧ Below W.heap.size W w' := by
  obtain ⟨n, hn⟩ : ∃ n, W.heap.size = n := ⟨_, rfl⟩
  obtain ⟨W1, hW1⟩ : ∃ W1, W1 = W.alloc (.cells (u8s d).toArray 35) := ⟨_, rfl⟩
  have hB1 : Below n W W1 := by rw [hW1, ← hn]; exact (Below.refl W.heap.size W).alloc (Nat.le_refl _) _
  have hx1 : W1.heap[n]? = some (.cells (u8s d).toArray 35) := by rw [hW1, ← hn]; exact blk_new W _
  have hs1 : W1.heap.size = n + 1 := by rw [hW1, ← hn]; simp
  obtain ⟨W2, hW2⟩ : ∃ W2, W2 = W1.alloc (.cells #[.pointer none] 52) := ⟨_, rfl⟩
  have hB2 : Below W1.heap.size W1 W2 := by rw [hW2]; exact (Below.refl W1.heap.size W1).alloc (Nat.le_refl _) _
  have hz2 : W2.heap[n + 1]? = some (.cells [Value.pointer none].toArray 52) := by rw [hW2, ← hs1]; exact blk_new W1 _
  have hs2 : W2.heap.size = n + 2 := by rw [hW2]; simp [hs1]
  obtain ⟨W3, hW3⟩ : ∃ W3, W3 = W2.alloc (.cells #[.pointer none, .pointer (some ⟨n + 1, 0, none⟩)] 25) := ⟨_, rfl⟩
  have hB3 : Below W2.heap.size W2 W3 := by rw [hW3]; exact (Below.refl W2.heap.size W2).alloc (Nat.le_refl _) _
  have hp3 : W3.heap[n + 2]? = some (.cells [Value.pointer none, .pointer (some ⟨n + 1, 0, none⟩)].toArray 25) := by rw [hW3, ← hs2]; exact blk_new W2 _
  have hx3 : W3.heap[n]? = some (.cells (u8s d).toArray 35) := blk_on (blk_on hx1 hB2) hB3
  have HZ3 : Hid (W3.heap[n + 1]? = some (.cells [Value.pointer none].toArray 52)) := blk_on hz2 hB3
  have HP3 : Hid (W3.heap[n + 2]? = some (.cells [Value.pointer none, .pointer (some ⟨n + 1, 0, none⟩)].toArray 25)) := hp3
  have HB3 : Hid (Below n W W3) := (hB1.trans (hB2.mono (by omega))).trans (hB3.mono (by omega))
  have HN : Hid (W.heap.size = n) := hn
  have HS1 : Hid (W1.heap.size = n + 1) := hs1
  have HS2 : Hid (W2.heap.size = n + 2) := hs2
  have HLD : Hid (∀ X : World, Below W3.heap.size W3 X → (Instr.loadAt 35 (.pointer (some ⟨n, 0, none⟩))).run Try.prog X = .ok (.agg (u8s d).toArray) X) := fun X hX => at_A hd.len (blk_on hx3 hX)
  have e1 := hW1.symm
  have e2 := hW2.symm
  have e3 := hW3.symm
  clear hB1 hx1 hW1 hB2 hz2 hW2 hB3 hp3 hx3 hW3 hd
  go_enter Try.func6, Try.ntmps6
  go_wp2_with fail
  clear hn hs1 hs2 e1 e2 e3
  go_loopw [21] (fun i wr => ∃ k : Nat, k ≤ 2 ∧ i = .int .i64 k ∧ Hid (Below W3.heap.size W3 wr)) (fun i _ => 2 - (intOf i).toNat)
  case atStart => exact ⟨0, by omega, rfl, Below.refl _ _⟩
  case round =>
    obtain ⟨k, hk, rfl, hbr⟩ := hrel
    by_cases hlt : k < 2
    · obtain ⟨p, hcell, hnob⟩ : ∃ p, wr.cell? ⟨n + 2, k, none⟩ = some (.pointer p) ∧ NobC (.pointer p) wr := by
        have hp := blk_on HP3.out hbr.out
        have hz := blk_on HZ3.out hbr.out
        rcases (by omega : k = 0 ∨ k = 1) with rfl | rfl
        · exact ⟨none, blk_cell hp rfl, nob_nil wr⟩
        · exact ⟨some ⟨n + 1, 0, none⟩, blk_cell hp rfl, nob_zero hz⟩
      have HN0 : Hid (NobC (.pointer p) wr) := hnob
      have HB0 : Hid (Below W3.heap.size W3 wr) := hbr.out
      have hki : (k : Int) < 2 := by omega
      clear hnob hbr
      go_wp2_with first
        | ((with_reducible show wpList _ _ _ ({ dst := _, op := Op.load 35 (Operand.tmp 1), type := _, pos := _, after := _, guard := _ } :: _) _ _); refine armL (.tmp 1) 35 rfl rfl rfl (HLD.out _ HB0.out) ?_)
      refine Calls.mono (nob_get HN0.out 0 d) ?_
      rintro e1 x1 ⟨rfl, hb1⟩
      have HN1 : Hid (NobC (.pointer p) x1) := HN0.out.on hb1
      have HB1 : Hid (Below W3.heap.size W3 x1) := HB0.out.trans (hb1.mono HB0.out.size)
      clear hb1 HN0 HB0 hcell
      go_wp2_with first
        | ((with_reducible show wpList _ _ _ ({ dst := _, op := Op.load 35 (Operand.tmp 1), type := _, pos := _, after := _, guard := _ } :: _) _ _); refine armL (.tmp 1) 35 rfl rfl rfl (HLD.out _ HB1.out) ?_)
      refine Calls.mono (nob_told HN1.out 0 d 1) ?_
      rintro e2 x2 ⟨rfl, hb2⟩
      have HN2 : Hid (NobC (.pointer p) x2) := HN1.out.on hb2
      have HB2 : Hid (Below W3.heap.size W3 x2) := HB1.out.trans (hb2.mono HB1.out.size)
      clear hb2 HN1 HB1
      go_wp2_with first
        | ((with_reducible show wpList _ _ _ ({ dst := _, op := Op.load 35 (Operand.tmp 1), type := _, pos := _, after := _, guard := _ } :: _) _ _); refine armL (.tmp 1) 35 rfl rfl rfl (HLD.out _ HB2.out) ?_)
      refine Calls.mono (nob_drop HN2.out 0 d) ?_
      rintro e3 x3 ⟨rfl, hb3⟩
      have HN3 : Hid (NobC (.pointer p) x3) := HN2.out.on hb3
      have HB3 : Hid (Below W3.heap.size W3 x3) := HB2.out.trans (hb3.mono HB2.out.size)
      clear hb3 HN2 HB2
      go_wp2_with fail
      refine Calls.mono (nob_all HN3.out 0) ?_
      rintro e' x' ⟨rfl, hx'⟩
      obtain rfl := hx'.symm
      clear hx'
      go_wp2_with fail
      refine Calls.mono (nob_next HN3.out) ?_
      rintro e' x' ⟨rfl, hx'⟩
      obtain rfl := hx'.symm
      clear hx'
      go_wp2_with fail
      refine Calls.mono (nob_len HN3.out) ?_
      rintro e' x' ⟨rfl, hx'⟩
      obtain rfl := hx'.symm
      clear hx'
      go_wp2
      exact ⟨⟨k + 1, by omega, by simp, HB3.out⟩, by simp [intOf]; omega⟩
    · obtain rfl : k = 2 := by omega
      have HBW : Hid (Below n W wr) := HB3.out.trans (hbr.out.mono (by have h1 := HB3.out.size; have h2 := HN.out; omega))
      clear hbr
      go_wp2_with fail
      refine (awake_any _).mono ?_
      rintro e9 x9 ⟨rfl, hb9⟩
      have HF : Hid (Below W.heap.size W x9) := by rw [HN.out]; exact HBW.out.trans (hb9.mono (by have h1 := HBW.out.size; have h2 := HN.out; omega))
      clear hb9 HBW
      go_wp2
      try go_ret
      exact ⟨rfl, HF.out⟩
set_option maxRecDepth 100000 in
theorem pathmtuNobody_open {H : Type} {enc : TypeId × Value → H} {W : World} {base : Nat} (v0 : Value) {d0 : DataW H} {p0 : List MemPlace}
    (o0 : Value.okWide Try.prog W .any base 35 v0) (h0 : DataW.Trod enc Try.prog W 0 (fun _ => true) true 35 v0 d0 p0) (z0 : ∀ k ∈ d0.weights Try.prog 35, k ≤ reachBytes) :
    Calls Try.prog 6 #[v0] W fun e w' => e = .returned (.bool true) ∧ Below W.heap.size W w' := by
  obtain ⟨d, rfl, hl, hf⟩ := open_addr6 h0
  exact pathmtuNobody_walk ⟨hf, hl⟩
end Go.Proofs.Ytgndiblonhgihaa
