/-
  about of package icmp; first of the document.
-/
import Derived.Test.YtljmamogefgiaaaNg1
namespace Go.Proofs.Ytljmamogefgiaaa
open Go Go.RowKit Go.Shelf
set_option linter.unusedVariables false
set_option linter.unusedSimpArgs false

set_option maxHeartbeats 2000000 in
set_option maxRecDepth 100000 in
theorem first_calls (v : Value) (zs : List Int) (mo : Nat) (hmo : mo ≤ 10000) (w : World) (h : RowC w v zs) :
    Calls Try.prog 46 #[v, .int .i64 (mo : Int)] w fun e w' => ∃ u, e = .returned u ∧ BytesAt w'.heap.size w' u (zs.take mo) ∧ Below w.heap.size w w' ∧ New w u (zs.take mo) := by
  obtain ⟨a, cap, rfl, hcap, _⟩ := h.val
  have hB0 := (Below.refl w.heap.size w).alloc (Nat.le_refl _) (.cells #[] 5)
  by_cases hn : zs.length ≤ mo
  · rw [List.take_of_length_le hn]
    obtain ⟨a2, cap2, w2, hrun, hg, hb2, hloc⟩ := bytes_copied2 (h.on hB0).bytes w.heap.size 24
    have HG : Hid _ := hg
    have HB : Hid _ := hB0.trans (hb2.mono hB0.size)
    have HN : Hid (New w (.slice a2 zs.length cap2) zs) := hloc.imp id (by rintro ⟨g, off, rfl, hle⟩; exact ⟨g, off, _, _, rfl, Nat.le_trans hB0.size hle⟩)
    have HR : Hid _ := hrun
    clear hrun hg hb2 hloc h hB0
    go_enter Try.func46, Try.ntmps46
    go_wp2_with ((with_reducible show wpList _ _ _ ({ dst := _, op := Op.call { callee := Callee.builtin Builtin.append, args := _, argTypes := _ }, type := _, pos := _, after := _, guard := _ } :: _) _ _); refine wpList_append_run rfl _ _ _ _ rfl rfl rfl HR.out ?_)
    go_ret
    exact ⟨_, rfl, HG.out, HB.out, HN.out⟩
  · have hn : mo < zs.length := by omega
    obtain ⟨a2, cap2, w2, hrun, hg, hb2, hloc⟩ := bytes_copied2 ((h.on hB0).first mo (by omega)).bytes w.heap.size 24
    have HG : Hid _ := hg
    have HB : Hid _ := hB0.trans (hb2.mono hB0.size)
    have HN : Hid (New w (.slice a2 (zs.take mo).length cap2) (zs.take mo)) := hloc.imp id (by rintro ⟨g, off, rfl, hle⟩; exact ⟨g, off, _, _, rfl, Nat.le_trans hB0.size hle⟩)
    have HR : Hid _ := hrun
    have hkc : mo ≤ cap := by omega
    clear hrun hg hb2 hloc h hB0
    generalize zs.take mo = ys at *
    go_enter Try.func46, Try.ntmps46
    go_wp2_with ((with_reducible show wpList _ _ _ ({ dst := _, op := Op.call { callee := Callee.builtin Builtin.append, args := _, argTypes := _ }, type := _, pos := _, after := _, guard := _ } :: _) _ _); refine wpList_append_run rfl _ _ _ _ rfl rfl rfl HR.out ?_)
    go_ret
    exact ⟨_, rfl, HG.out, HB.out, HN.out⟩

end Go.Proofs.Ytljmamogefgiaaa
