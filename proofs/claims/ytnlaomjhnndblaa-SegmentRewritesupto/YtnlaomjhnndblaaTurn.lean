/-
  The contracts of package sum's turned, words, add and total.
-/
import Derived.Test.YtnlaomjhnndblaaIter
namespace Go.Proofs.Ytnlaomjhnndblaa
open Go Go.RowKit Go.Shelf
attribute [local go_sem] Oper.semAt_some

theorem boxed_stays {W W' : World} {B : Nat} {t : TypeId} {v : Value} (h : Boxed W B t v) (e : W'.heap[B]? = W.heap[B]?) : Boxed W' B t v := e.trans h

set_option maxRecDepth 100000 in
set_option maxHeartbeats 1000000 in
theorem turned1_gives (Bt g : Nat) (lb : Array Value) (eg : ∀ args w, (callFunc g args).run Try.prog w = .ok (.enter g args) w) (xs : List Int) (hxs : ∀ z ∈ xs, 0 ≤ z ∧ z ≤ 65535) (w : World) (hlB : Bt < w.heap.size)
    (hBt : w.cell? ⟨Bt, 0, none⟩ = some (.func (.func g) #[] lb)) (hg : Gives Try.prog g lb (xs.map (fun z => .int .u16 z)) w) :
    Gives Try.prog 94 #[.pointer (some ⟨Bt, 0, none⟩)] (xs.map (fun z => .int .u16 (65535 - z))) w := by
  intro l J W hW hJ hY h0 n
  refine callsIn_wide.2 ((callsIn_wide (n := 9)).1 ?_)
  have hBt' : W.cell? ⟨Bt, 0, none⟩ = some (.func (.func g) #[] lb) := (hW.cell (p := ⟨Bt, 0, none⟩) hlB).trans hBt
  have hsz := hW.size
  have hlt : Bt < W.heap.size := by omega
  refine callsIn_of_wp_marks Try.func94 rfl trivial ?_ rfl
  simp only [Try.ntmps94, List.size_toArray, List.length_cons, List.length_nil, Nat.reduceAdd, Nat.reduceSub, Array.replicate_succ, Array.replicate_zero, List.push_toArray, List.append_toArray, List.nil_append, List.cons_append]
  gi_wp2
  obtain ⟨W0, hW0⟩ : ∃ W0, W.alloc (.cells #[.func (.yield l) #[] #[]] 147) = W0 := ⟨_, rfl⟩
  have hs0 : W0.heap.size = W.heap.size + 1 := by rw [← hW0]; simp
  have hB0 : Boxed W0 W.heap.size 147 (.func (.yield l) #[] #[]) := by rw [← hW0]; exact Boxed.new W _ _
  have hJ0 : J 0 W0 := by rw [← hW0]; exact hJ.alloc _ h0
  have hb0 : Below w.heap.size w W0 := by rw [← hW0]; exact hW.alloc hsz _
  rw [hW0]
  clear hW0
  refine wpIn_range (gf := g) (lb := lb) rfl eg hg hb0 rfl (fun k X => J k X ∧ Boxed X W.heap.size 147 (.func (.yield l) #[] #[]))
    (OwnFrom.and (OwnFrom.later hJ (by omega)) (Own.from (boxed_own _ _ (fun _ => .func (.yield l) #[] #[])) _)) ⟨hJ0, hB0⟩
    (fun x => { tmps := #[.func (.yield l) #[] #[], .pointer (some ⟨Bt, 0, none⟩), .pointer (some ⟨W.heap.size, 0, none⟩), x, .func (.func g) #[] lb, x, undef, undef, undef, undef, undef], defers := [] }) ?assign ?body ?done
  case assign =>
    intro l' m x X K hK
    gi_wp2
    exact hK
  case body =>
    rintro l' m k x X hx hle ⟨hj, hbx⟩
    have hcx := hbx.cell
    rw [List.getElem?_map] at hx
    obtain ⟨z, hz, rfl⟩ := Option.map_eq_some_iff.1 hx
    have hz2 := hxs z (List.mem_of_getElem? hz)
    have hx' : (xs.map (fun z => Value.int .u16 (65535 - z)))[k]? = some (.int .u16 (65535 - z)) := by rw [List.getElem?_map, hz]; rfl
    obtain ⟨fn, tmps, assign, body, hy, hR⟩ := hY k _ X hx' hj (m - 1)
    clear hx hx' hz
    have hnot := not_word z hz2.1 hz2.2
    have hsg : IntKind.u16.signed = false := rfl
    gi_wp2
    refine ⟨fun h => by simp [Fence.wide] at h, (RoundIn.inRound l' hR).mono ?_⟩
    rintro e X3 ⟨rfl, hj3, hk3⟩
    gi_wp2
    exact ⟨⟨hj3, boxed_stays hbx (hk3.above _ (Nat.le_refl _) (by omega))⟩, hk3.mono (Nat.le_refl _) (by omega)⟩
  case done =>
    rintro D X hD ⟨hj, _⟩ hK
    gi_wp2
    refine ⟨by simp, .inl ⟨_, _, rfl, run_takeDeferred hK, ?_⟩⟩
    refine ⟨_, results_none rfl _ _ _, ⟨_, rfl⟩, ?_⟩
    have := hJ.putObj (.deferred none) hj (by omega) hK rfl
    simpa using this

set_option maxHeartbeats 400000 in
theorem words_calls (a : Option Addr) (len cap : Nat) (w : World) :
    Calls Try.prog 91 #[.slice a len cap] w fun e w' => e = .returned (.func (.func 95) #[] #[.pointer (some ⟨w.heap.size, 0, none⟩)]) ∧ w' = w.alloc (.cells #[.slice a len cap] 71) := by
  go_enter Try.func91, Try.ntmps91
  go_wp2
  go_ret
  exact ⟨rfl, rfl⟩

set_option maxHeartbeats 400000 in
theorem turned_calls (g : Nat) (lb : Array Value) (w : World) :
    Calls Try.prog 90 #[.func (.func g) #[] lb] w fun e w' => e = .returned (.func (.func 94) #[] #[.pointer (some ⟨w.heap.size, 0, none⟩)]) ∧ w' = w.alloc (.cells #[.func (.func g) #[] lb] 143) := by
  go_enter Try.func90, Try.ntmps90
  go_wp2
  go_ret
  exact ⟨rfl, rfl⟩

set_option maxHeartbeats 400000 in
theorem add_calls (a b : Int) (ha : 0 ≤ a ∧ a ≤ 65535) (hb : 0 ≤ b ∧ b ≤ 65535) (w : World) :
    Calls Try.prog 93 #[.int .u16 a, .int .u16 b] w fun e w' => e = .returned (.int .u16 (addW a b)) ∧ w' = w := by
  go_enter Try.func93, Try.ntmps93
  go_wp2
  go_ret
  exact ⟨congrArg (fun z => Ending.returned (.int .u16 z)) (add_word a b ha hb), rfl⟩

set_option maxRecDepth 100000 in
set_option maxHeartbeats 1000000 in
theorem total_calls (s : Int) (hs : 0 ≤ s ∧ s ≤ 65535) (g : Nat) (lb : Array Value) (eg : ∀ args w, (callFunc g args).run Try.prog w = .ok (.enter g args) w) (xs : List Int) (hxs : Words xs) (w : World)
    (hg : Gives Try.prog g lb (xs.map (fun z => .int .u16 z)) w) :
    Calls Try.prog 89 #[.int .u16 s, .func (.func g) #[] lb] w fun e w' => e = .returned (.int .u16 (sumW s xs)) ∧ Below w.heap.size w w' := by
  refine (callsIn_wide (n := 9)).1 ?_
  refine callsIn_of_wp_marks Try.func89 rfl trivial ?_ rfl
  simp only [Try.ntmps89, List.size_toArray, List.length_cons, List.length_nil, Nat.reduceAdd, Nat.reduceSub, Array.replicate_succ, Array.replicate_zero, List.push_toArray, List.append_toArray, List.nil_append, List.cons_append]
  gi_wp2
  obtain ⟨W0, hW0⟩ : ∃ W0, w.alloc (.cells #[.int .u16 s] 28) = W0 := ⟨_, rfl⟩
  have hs0 : W0.heap.size = w.heap.size + 1 := by rw [← hW0]; simp
  have hB0 : Boxed W0 w.heap.size 28 (.int .u16 s) := by rw [← hW0]; exact Boxed.new w _ _
  have hb0 : Below w.heap.size w W0 := by rw [← hW0]; exact (Below.refl _ w).alloc (Nat.le_refl _) _
  rw [hW0]
  clear hW0
  refine wpIn_range (gf := g) (lb := lb) rfl eg hg hb0 rfl (fun k X => Boxed X w.heap.size 28 (.int .u16 (sumW s (xs.take k))) ∧ Below w.heap.size w X)
    (OwnFrom.and (Own.from (boxed_own _ _ (fun k => .int .u16 (sumW s (xs.take k)))) _) (ownFrom_below (Nat.le_refl _) (by omega))) ⟨hB0, hb0⟩
    (fun x => { tmps := #[.int .u16 s, .func (.func g) #[] lb, .pointer (some ⟨w.heap.size, 0, none⟩), undef, .int .u16 0, x, .func (.func g) #[] lb, x, undef, undef, undef, undef], defers := [] }) ?assign ?body ?done
  case assign =>
    intro l' m x X K hK
    gi_wp2
    exact hK
  case body =>
    rintro l' m k x X hx hle ⟨hbx, hb⟩
    have hcx := hbx.cell
    have hfx := hbx.frozen
    rw [List.getElem?_map] at hx
    obtain ⟨z, hz, rfl⟩ := Option.map_eq_some_iff.1 hx
    have hz2 := hxs z (List.mem_of_getElem? hz)
    have ht2 := sumW_range (xs.take k) s hs (fun z hz => hxs z (List.mem_of_mem_take hz))
    have hsn := sumW_snoc s xs k z hz
    clear hx hz
    generalize sumW s (xs.take k) = t at *
    have HS : Hid (sumW s (xs.take (k + 1)) = addW t z) := hsn
    clear hsn
    have hadd : ∀ m' X', CallsIn (Fence.wide.inRound l') m' Try.prog 93 #[.int .u16 t, .int .u16 z] X' fun e w' => e = .returned (.int .u16 (addW t z)) ∧ w' = X' :=
      fun m' X' => CallsIn.inRound l' (callsIn_wide.2 (add_calls t z ht2 hz2 X'))
    gi_wp2_with fail
    refine ⟨trivial, fun h => by simp [Fence.wide] at h, (hadd _ _).mono ?_⟩
    rintro e X' ⟨rfl, rfl⟩
    gi_wp2
    have hset := hbx.set (.int .u16 (addW t z))
    refine ⟨⟨?_, hb.setCell (p := ⟨w.heap.size, 0, none⟩) (Nat.le_refl _) _⟩, Kept.setCell _ _ _ (Nat.le_refl _) (by omega)⟩
    rw [HS.out]; exact hset
  case done =>
    rintro D X hD ⟨hbx, hb⟩ hK
    have hcx := hbx.cell
    have hfx := hbx.frozen
    gi_wp2
    refine ⟨by simp, .inl ⟨_, _, rfl, run_takeDeferred hK, ?_⟩⟩
    exact ⟨_, results_tmp rfl _ _ _, rfl, hb.trans (belowK_b (w := w) (Nat.le_refl _) X D _ _ (by omega) hK rfl rfl)⟩

end Go.Proofs.Ytnlaomjhnndblaa
