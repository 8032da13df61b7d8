/-
  The contracts of package sum's turned, words, add and total.
-/
import Derived.Test.YtljmamogefgiaaaIter
namespace Go.Proofs.Ytljmamogefgiaaa
open Go Go.RowKit Go.Shelf
attribute [local go_sem] Oper.semAt_some

theorem boxed_stays {W W' : World} {B : Nat} {t : TypeId} {v : Value} (h : Boxed W B t v) (e : W'.heap[B]? = W.heap[B]?) : Boxed W' B t v := e.trans h

set_option maxHeartbeats 400000 in
theorem words_calls (a : Option Addr) (len cap : Nat) (w : World) :
    Calls Try.prog 62 #[.slice a len cap] w fun e w' => e = .returned (.func (.func 64) #[] #[.pointer (some ⟨w.heap.size, 0, none⟩)]) ∧ w' = w.alloc (.cells #[.slice a len cap] 76) := by
  go_enter Try.func62, Try.ntmps62
  go_wp2
  go_ret
  exact ⟨rfl, rfl⟩

set_option maxHeartbeats 400000 in
theorem add_calls (a b : Int) (ha : 0 ≤ a ∧ a ≤ 65535) (hb : 0 ≤ b ∧ b ≤ 65535) (w : World) :
    Calls Try.prog 63 #[.int .u16 a, .int .u16 b] w fun e w' => e = .returned (.int .u16 (addW a b)) ∧ w' = w := by
  go_enter Try.func63, Try.ntmps63
  go_wp2
  go_ret
  exact ⟨congrArg (fun z => Ending.returned (.int .u16 z)) (add_word a b ha hb), rfl⟩

set_option maxRecDepth 100000 in
set_option maxHeartbeats 1000000 in
theorem total_calls (s : Int) (hs : 0 ≤ s ∧ s ≤ 65535) (g : Nat) (lb : Array Value) (eg : ∀ args w, (callFunc g args).run Try.prog w = .ok (.enter g args) w) (xs : List Int) (hxs : Words xs) (w : World)
    (hg : Gives Try.prog g lb (xs.map (fun z => .int .u16 z)) w) :
    Calls Try.prog 61 #[.int .u16 s, .func (.func g) #[] lb] w fun e w' => e = .returned (.int .u16 (sumW s xs)) ∧ Below w.heap.size w w' := by
  refine (callsIn_wide (n := 9)).1 ?_
  refine callsIn_of_wp_marks Try.func61 rfl trivial ?_ rfl
  simp only [Try.ntmps61, List.size_toArray, List.length_cons, List.length_nil, Nat.reduceAdd, Nat.reduceSub, Array.replicate_succ, Array.replicate_zero, List.push_toArray, List.append_toArray, List.nil_append, List.cons_append]
  gi_wp2
  obtain ⟨W0, hW0⟩ : ∃ W0, w.alloc (.cells #[.int .u16 s] 45) = W0 := ⟨_, rfl⟩
  have hs0 : W0.heap.size = w.heap.size + 1 := by rw [← hW0]; simp
  have hB0 : Boxed W0 w.heap.size 45 (.int .u16 s) := by rw [← hW0]; exact Boxed.new w _ _
  have hb0 : Below w.heap.size w W0 := by rw [← hW0]; exact (Below.refl _ w).alloc (Nat.le_refl _) _
  rw [hW0]
  clear hW0
  refine wpIn_range (gf := g) (lb := lb) rfl eg hg hb0 rfl (fun k X => Boxed X w.heap.size 45 (.int .u16 (sumW s (xs.take k))) ∧ Below w.heap.size w X)
    (OwnFrom.and (Own.from (boxed_own _ _ (fun k => .int .u16 (sumW s (xs.take k)))) _) (ownFrom_below (Nat.le_refl _) (by omega))) ⟨hB0, hb0⟩
    (fun x => { tmps := #[.int .u16 s, .func (.func g) #[] lb, .pointer (some ⟨w.heap.size, 0, none⟩), undef, .int .u16 0, x, .func (.func g) #[] lb, x, undef, undef, undef, undef], defers := [] }) ?assign ?body ?done
  case assign =>
    intro l' m x X K hK
    gi_wp2
    exact hK
  case body =>
    rintro l' m k x X hx hle ⟨hbx, hb⟩
    have hcx := hbx.cell
    have hfx := hbx.frozen
    rw [List.getElem?_map] at hx
    obtain ⟨z, hz, rfl⟩ := Option.map_eq_some_iff.1 hx
    have hz2 := hxs z (List.mem_of_getElem? hz)
    have ht2 := sumW_range (xs.take k) s hs (fun z hz => hxs z (List.mem_of_mem_take hz))
    have hsn := sumW_snoc s xs k z hz
    clear hx hz
    generalize sumW s (xs.take k) = t at *
    have HS : Hid (sumW s (xs.take (k + 1)) = addW t z) := hsn
    clear hsn
    have hadd : ∀ m' X', CallsIn (Fence.wide.inRound l') m' Try.prog 63 #[.int .u16 t, .int .u16 z] X' fun e w' => e = .returned (.int .u16 (addW t z)) ∧ w' = X' :=
      fun m' X' => CallsIn.inRound l' (callsIn_wide.2 (add_calls t z ht2 hz2 X'))
    gi_wp2_with fail
    refine ⟨trivial, fun h => by simp [Fence.wide] at h, (hadd _ _).mono ?_⟩
    rintro e X' ⟨rfl, rfl⟩
    gi_wp2
    have hset := hbx.set (.int .u16 (addW t z))
    refine ⟨⟨?_, hb.setCell (p := ⟨w.heap.size, 0, none⟩) (Nat.le_refl _) _⟩, Kept.setCell _ _ _ (Nat.le_refl _) (by omega)⟩
    rw [HS.out]; exact hset
  case done =>
    rintro D X hD ⟨hbx, hb⟩ hK
    have hcx := hbx.cell
    have hfx := hbx.frozen
    gi_wp2
    refine ⟨by simp, .inl ⟨_, _, rfl, run_takeDeferred hK, ?_⟩⟩
    exact ⟨_, results_tmp rfl _ _ _, rfl, hb.trans (belowK_b (w := w) (Nat.le_refl _) X D _ _ (by omega) hK rfl rfl)⟩

end Go.Proofs.Ytljmamogefgiaaa
