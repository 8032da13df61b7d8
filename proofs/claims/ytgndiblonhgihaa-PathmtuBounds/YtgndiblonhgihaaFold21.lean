/-
  New of good settings.
  awake.
-/
import Derived.Test.YtgndiblonhgihaaFold20
import Derived.Carry
namespace Go.Proofs.Ytgndiblonhgihaa
open Go Go.RowKit Go.Lib
set_option linter.unusedVariables false
set_option linter.unusedSimpArgs false

set_option maxHeartbeats 4000000 in
set_option maxRecDepth 100000 in
theorem New_good {cf : Cf} (h : cf.Ok) (W : World) : Calls Try.prog 7 #[.agg (cfC cf).toArray] W fun e w' => ∃ p pb mb, e = .returned (.tuple #[.pointer (some ⟨p, 0, none⟩), .int .i64 0]) ∧ Box w' p pb ∧ Keeps pb cf 0 mb (.slice none 0 0) [] w' ∧ Below W.heap.size W w' ∧ W.heap.size ≤ p ∧ W.heap.size ≤ pb ∧ W.heap.size ≤ mb := by
  generalize hQ : (fun (e : Ending) (w' : World) => ∃ p pb mb, e = .returned (.tuple #[.pointer (some ⟨p, 0, none⟩), .int .i64 0]) ∧ Box w' p pb ∧ Keeps pb cf 0 mb (.slice none 0 0) [] w' ∧ Below W.heap.size W w' ∧ W.heap.size ≤ p ∧ W.heap.size ≤ pb ∧ W.heap.size ≤ mb) = Q
  have HQ : Hid (∀ e w', (∃ p pb mb, e = .returned (.tuple #[.pointer (some ⟨p, 0, none⟩), .int .i64 0]) ∧ Box w' p pb ∧ Keeps pb cf 0 mb (.slice none 0 0) [] w' ∧ Below W.heap.size W w' ∧ W.heap.size ≤ p ∧ W.heap.size ≤ pb ∧ W.heap.size ≤ mb) → Q e w') := fun e w' hh => by rw [← hQ]; exact hh
  clear hQ
  have HM : Hid _ := fun X => may_yes h X
  obtain ⟨lim, link, life, least⟩ := cf
  have HB1 : Hid (Below W.heap.size W (W.alloc (.cells (cfC ⟨lim, link, life, least⟩).toArray 23))) := (Below.refl W.heap.size W).alloc (Nat.le_refl _) _
  have hx : (W.alloc (.cells (cfC ⟨lim, link, life, least⟩).toArray 23)).heap[W.heap.size]? = some (.cells (cfC ⟨lim, link, life, least⟩).toArray 23) := blk_new W _
  obtain ⟨W1, hW1⟩ : ∃ W1, W1 = W.alloc (.cells (cfC ⟨lim, link, life, least⟩).toArray 23) := ⟨_, rfl⟩
  rw [← hW1] at HB1 hx
  have hs1 : W1.heap.size = W.heap.size + 1 := by rw [hW1]; simp
  have hW := hW1.symm
  have c0 : W1.cell? ⟨W.heap.size, 0, none⟩ = some (.int .i64 lim) := blk_cell (j := 0) hx rfl
  have c1 : W1.cell? ⟨W.heap.size, 1, none⟩ = some (.int .i64 link) := blk_cell (j := 1) hx rfl
  have c2 : W1.cell? ⟨W.heap.size, 2, none⟩ = some (.int .i64 life) := blk_cell (j := 2) hx rfl
  have c3 : W1.cell? ⟨W.heap.size, 3, none⟩ = some (.int .i64 least) := blk_cell (j := 3) hx rfl
  have HX : Hid (W1.heap[W.heap.size]? = some (.cells (cfC ⟨lim, link, life, least⟩).toArray 23) ∧ W1.heap.size = W.heap.size + 1) := ⟨hx, hs1⟩
  have hmm := @run_makeMap Try.prog
  unfold cfC at hW ⊢
  clear hW1 hx hs1
  go_enter Try.func7, Try.ntmps7
  go_wp2_with fail
  refine Calls.mono (HM.out W1) ?_
  rintro e w1 ⟨rfl, hb1⟩
  have x1 := (hb1.block _ (by rw [HX.out.2]; omega)).trans HX.out.1
  have d0 : w1.cell? ⟨W.heap.size, 0, none⟩ = some (.int .i64 lim) := blk_cell (j := 0) x1 rfl
  have d1 : w1.cell? ⟨W.heap.size, 1, none⟩ = some (.int .i64 link) := blk_cell (j := 1) x1 rfl
  have d2 : w1.cell? ⟨W.heap.size, 2, none⟩ = some (.int .i64 life) := blk_cell (j := 2) x1 rfl
  have d3 : w1.cell? ⟨W.heap.size, 3, none⟩ = some (.int .i64 least) := blk_cell (j := 3) x1 rfl
  have HB2 : Hid (Below W.heap.size W w1) := HB1.out.trans (hb1.mono HB1.out.size)
  clear hb1 x1 c0 c1 c2 c3 hW
  go_wp2_with fail
  try go_returns
  obtain ⟨n, hn⟩ : ∃ n, n = w1.heap.size := ⟨_, rfl⟩
  have e1 : (w1.alloc (.map #[] 0)).heap.size = n + 1 := by rw [hn]; simp
  have e2 : ((w1.alloc (.map #[] 0)).alloc (.cells (pC ⟨lim, link, life, least⟩ 0 n (.slice none 0 0)).toArray 64)).heap.size = n + 1 + 1 := by rw [hn]; simp
  have hm : (((w1.alloc (.map #[] 0)).alloc (.cells (pC ⟨lim, link, life, least⟩ 0 n (.slice none 0 0)).toArray 64)).alloc (.cells [Value.pointer (some ⟨n + 1, 0, none⟩)].toArray 52)).heap[n]? = some (.map #[] 0) := by
    rw [hn]; exact blk_alloc (blk_alloc (blk_new w1 _) _) _
  have hp : (((w1.alloc (.map #[] 0)).alloc (.cells (pC ⟨lim, link, life, least⟩ 0 n (.slice none 0 0)).toArray 64)).alloc (.cells [Value.pointer (some ⟨n + 1, 0, none⟩)].toArray 52)).heap[n + 1]? = some (.cells (pC ⟨lim, link, life, least⟩ 0 n (.slice none 0 0)).toArray 64) := by
    have := blk_new (w1.alloc (.map #[] 0)) (.cells (pC ⟨lim, link, life, least⟩ 0 n (.slice none 0 0)).toArray 64)
    rw [e1] at this
    exact blk_alloc this _
  have hc : (((w1.alloc (.map #[] 0)).alloc (.cells (pC ⟨lim, link, life, least⟩ 0 n (.slice none 0 0)).toArray 64)).alloc (.cells [Value.pointer (some ⟨n + 1, 0, none⟩)].toArray 52)).heap[n + 1 + 1]? = some (.cells [Value.pointer (some ⟨n + 1, 0, none⟩)].toArray 52) := by
    have := blk_new ((w1.alloc (.map #[] 0)).alloc (.cells (pC ⟨lim, link, life, least⟩ 0 n (.slice none 0 0)).toArray 64)) (.cells [Value.pointer (some ⟨n + 1, 0, none⟩)].toArray 52)
    rw [e2] at this
    exact this
  have hB : Below W.heap.size W (((w1.alloc (.map #[] 0)).alloc (.cells (pC ⟨lim, link, life, least⟩ 0 n (.slice none 0 0)).toArray 64)).alloc (.cells [Value.pointer (some ⟨n + 1, 0, none⟩)].toArray 52)) := by
    have hz := HB2.out.size
    exact ((HB2.out.alloc hz _).alloc (by rw [e1]; omega) _).alloc (by rw [e2]; omega) _
  have HF : Hid (Box (((w1.alloc (.map #[] 0)).alloc (.cells (pC ⟨lim, link, life, least⟩ 0 n (.slice none 0 0)).toArray 64)).alloc (.cells [Value.pointer (some ⟨n + 1, 0, none⟩)].toArray 52)) (n + 1 + 1) (n + 1) ∧ Keeps (n + 1) ⟨lim, link, life, least⟩ 0 n (.slice none 0 0) [] (((w1.alloc (.map #[] 0)).alloc (.cells (pC ⟨lim, link, life, least⟩ 0 n (.slice none 0 0)).toArray 64)).alloc (.cells [Value.pointer (some ⟨n + 1, 0, none⟩)].toArray 52)) ∧ Below W.heap.size W (((w1.alloc (.map #[] 0)).alloc (.cells (pC ⟨lim, link, life, least⟩ 0 n (.slice none 0 0)).toArray 64)).alloc (.cells [Value.pointer (some ⟨n + 1, 0, none⟩)].toArray 52))) :=
    ⟨hc, ⟨⟨hp, ⟨rfl, .inl ⟨rfl, rfl⟩⟩, fun x hx => by simp at hx⟩, ⟨[], ⟨#[], 0, hm, .nil⟩, ⟨fun d q => by simp, by simp⟩⟩, by simp [KN]⟩, hB⟩
  have hz := HB2.out.size
  subst hn
  exact HQ.out _ _ ⟨w1.heap.size + 1 + 1, w1.heap.size + 1, w1.heap.size, rfl, HF.out.1, HF.out.2.1, HF.out.2.2, by omega, by omega, hz⟩
end Go.Proofs.Ytgndiblonhgihaa

namespace Go.Proofs.Ytgndiblonhgihaa
open Go Go.RowKit Go.Lib
set_option linter.unusedVariables false
set_option linter.unusedSimpArgs false

abbrev cfA : Cf := ⟨2, 1500, 100, 1280⟩
abbrev dA : List Int := [1, 0, 0, 0, 0, 0, 0, 0, 0, 0, 0, 0, 0, 0, 0, 0]
theorem cfA_ok : cfA.Ok := ⟨by decide, by decide, by decide, by decide⟩
theorem dA_ok : K16 dA := ⟨fun z hz => by simp at hz; rcases hz with rfl | rfl <;> omega, rfl⟩
theorem SortE.nil : SortE [] := fun i j x y _ hx _ => by simp at hx
theorem SortE.one (y : PE × Nat) : SortE [y] := fun i j x z hij hx hz => by
  have h1 := (List.getElem?_eq_some_iff.1 hx).1
  have h2 := (List.getElem?_eq_some_iff.1 hz).1
  simp at h1 h2
  omega
theorem room_nil (d : List Int) {lim : Int} (h : 1 ≤ lim) : roomL [] d lim = [] := by
  unfold roomL
  split <;> rfl
theorem ins_nil (d : List Int) {lim : Int} (h : 1 ≤ lim) (e : PE) : ∀ b k, Stands (roomL [] d lim) (e, b) k → InsK (roomL [] d lim).length k := by
  intro b k hk
  rw [room_nil d h] at hk ⊢
  have : k = 0 := by have := hk.1; simpa using this
  subst this
  exact insK_end (n := 0) (by omega)
end Go.Proofs.Ytgndiblonhgihaa
