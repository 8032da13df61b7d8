/-
  The document's heads and right of IPv6.
-/
import Derived.Test.YtbaeogoojpngbaaXa3
namespace Go.Proofs.Ytbaeogoojpngbaa
open Go Go.RowKit
set_option linter.unusedVariables false
set_option linter.unusedSimpArgs false

section
variable {c : List Value} {cls lab hop : Int} {vh : Value} {fr : Bool} {id off : Int} {more : Bool} {proto : Int} {vb : Value}
set_option maxHeartbeats 1000000 in
set_option maxRecDepth 100000 in
theorem Rheads_calls (w : World) (h : L6 c cls lab hop vh fr id off more proto vb) (hs : Opts) (hh : OptsAt w.heap.size w vh hs) (hb : ∀ k, k ≤ hs.length → oTot hs k ≤ 100000) :
    Calls Try.prog 24 #[.agg c.toArray] w fun e w' => e = .returned (.int .i64 (40 + (oTot hs hs.length : Int) + (if fr then 8 else 0))) ∧ Below w.heap.size w w' := by
  have hb0 := blk_new w (.cells c.toArray 28)
  have hB0 := (Below.refl w.heap.size w).alloc (Nat.le_refl _) (.cells c.toArray 28)
  have H35 : Hid _ := blk_cell hb0 h.c35
  have H36 : Hid _ := blk_cell hb0 h.c36
  have hlt0 : w.heap.size < (w.alloc (.cells c.toArray 28)).heap.size := by simp
  obtain ⟨hfit, hlen, a, cap, rfl, hz⟩ := hh
  clear hb0 h
  generalize hW : w.alloc (.cells c.toArray 28) = W0 at *
  go_enter Try.func24, Try.ntmps24
  go_wp2
  go_loopw [3, 4] (fun x i wr => ∃ k : Nat, k ≤ hs.length ∧ i = .int .i64 k ∧ x = .int .i64 (40 + (oTot hs k : Int)) ∧ Below W0.heap.size W0 wr) (fun _ i _ => hs.length - (intOf i).toNat)
  case atStart => exact ⟨0, Nat.zero_le _, rfl, by simp [oTot], Below.refl _ _⟩
  case round =>
    obtain ⟨k, hk, rfl, rfl, hB⟩ := hrel
    have k35 := (hB.cell (p := ⟨w.heap.size, 35, none⟩) hlt0).trans H35.out
    by_cases hlt : k < hs.length
    · have hz' := hz
      rcases hz' with hz' | ⟨b, off, rfl, hbn, hc⟩
      · omega
      obtain ⟨c0, s, c1, hs'⟩ := hc k hlt
      obtain ⟨_, hdl, sa, sc, rfl, _⟩ := hs'
      have hBw := hB0.trans (hB.mono hB0.size)
      have x1 := (hBw.cell (p := ⟨b, off + k * 2 + 1, none⟩) hbn).trans c1
      have hT1 : (((oTot hs (k + 1) : Nat) : Int)) = (oTot hs k : Int) + (2 + ((oD hs k).length : Int)) := by simp only [oTot]; omega
      have hbk := hb (k + 1) hlt
      have HT : Hid _ := hT1
      have HA : Hid _ := hB
      have v1 : IntKind.i64.wrap (40 + (oTot hs k : Int) + 2) = 40 + (oTot hs k : Int) + 2 := wrapi64 _ (by omega)
      have v2 : IntKind.i64.wrap (40 + (oTot hs k : Int) + 2 + ((oD hs k).length : Int)) = 40 + (oTot hs k : Int) + 2 + ((oD hs k).length : Int) := wrapi64 _ (by omega)
      generalize hT1e : oTot hs (k + 1) = T1 at *
      have HT1E : Hid _ := hT1e
      clear hT1e hc hz c0 c1 hB hBw hT1 hbk
      generalize oTot hs k = T at *
      generalize (oD hs k).length = D at *
      go_wp2
      exact ⟨⟨k + 1, by omega, by simp, by rw [HT1E.out, HT.out]; simp; omega, HA.out⟩, by simp [intOf]; omega⟩
    · obtain rfl : k = hs.length := by omega
      have k36 := (hB.cell (p := ⟨w.heap.size, 36, none⟩) hlt0).trans H36.out
      have hbk := hb hs.length (Nat.le_refl _)
      have HB : Hid (Below w.heap.size w wr) := hB0.trans (hB.mono hB0.size)
      clear hz hB
      generalize hTe : oTot hs hs.length = T at *
      have HTE : Hid _ := hTe
      clear hTe
      have v2 : IntKind.i64.wrap (40 + (T : Int) + 8) = 40 + (T : Int) + 8 := wrapi64 _ (by omega)
      cases fr
      all_goals
        go_wp2
        go_ret
        exact ⟨by rw [HTE.out]; simp, HB.out⟩
end

end Go.Proofs.Ytbaeogoojpngbaa
