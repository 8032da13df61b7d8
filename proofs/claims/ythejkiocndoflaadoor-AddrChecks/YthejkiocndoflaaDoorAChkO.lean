/-
  The statement AddrChecks for every argument: both sides' contracts, and the walk out of them.
-/
import Derived.Test.YthejkiocndoflaaDoorAChkW
import Derived.Test.YthejkiocndoflaaDoorAddrHas2
import Derived.Test.YthejkiocndoflaaDoorAddrLast3
import Derived.Test.YthejkiocndoflaaDoorAddrAwake
import Derived.Test.YthejkiocndoflaaDoorAddrTab
namespace Go.Proofs.YthejkiocndoflaaDoor
open Go Go.RowKit Go.ChangeShapes Go.WideShapes Go.ChangeAt
set_option linter.unusedVariables false

theorem Awake.on {W : World} (tb : Tabs W ∧ Tz W) (w' : World) (hb : Below W.heap.size W w') : Calls Tryd.prog 17 #[] w' fun e w'' => e = .returned (.bool true) ∧ Below w'.heap.size w' w'' :=
  awake_calls w' ⟨Tabs.on tb.1 hb, Tz.on tb.2 hb⟩

theorem cut_both (a0 a1 a2 a3 n : Int) (h0 : 0 ≤ a0 ∧ a0 < 256) (h1 : 0 ≤ a1 ∧ a1 < 256) (h2 : 0 ≤ a2 ∧ a2 < 256) (h3 : 0 ≤ a3 ∧ a3 < 256) (hb : -9223372036854775808 ≤ n ∧ n ≤ 9223372036854775807) :
    ∃ r0 r1 r2 r3 rn i, FitB [r0, r1, r2, r3] ∧ Same2 34 35 #[A4 a0 a1 a2 a3, .int .i64 n] (.tuple #[P4 r0 r1 r2 r3 rn, .int .i64 i]) := by
  by_cases hn : 0 ≤ n ∧ n ≤ 32
  · obtain ⟨m, rfl⟩ := Int.eq_ofNat_of_zero_le hn.1
    exact ⟨_, _, _, _, _, _, fit4 (bl_fit a0 m h0) (bl_fit a1 _ h1) (bl_fit a2 _ h2) (bl_fit a3 _ h3), fun w => ⟨Cut4_yes a0 a1 a2 a3 m w h0 h1 h2 h3 hn, RCut4_yes a0 a1 a2 a3 m w h0 h1 h2 h3 (by omega)⟩⟩
  · exact ⟨0, 0, 0, 0, 0, 5, fit4 (by omega) (by omega) (by omega) (by omega), fun w => ⟨Cut4_no a0 a1 a2 a3 n w (by omega) hb, RCut4_no a0 a1 a2 a3 n w (by omega) hb⟩⟩

theorem last_both (a0 a1 a2 a3 n : Int) (h0 : 0 ≤ a0 ∧ a0 < 256) (h1 : 0 ≤ a1 ∧ a1 < 256) (h2 : 0 ≤ a2 ∧ a2 < 256) (h3 : 0 ≤ a3 ∧ a3 < 256) (hb : -9223372036854775808 ≤ n ∧ n ≤ 9223372036854775807) :
    ∃ t0 t1 t2 t3 i, FitB [t0, t1, t2, t3] ∧ Same2 36 37 #[P4 a0 a1 a2 a3 n] (.tuple #[A4 t0 t1 t2 t3, .int .i64 i]) := by
  have p := fun w => Last4_calls a0 a1 a2 a3 n w h0 h1 h2 h3 hb
  have q := fun w => RLast4_calls a0 a1 a2 a3 n w h0 h1 h2 h3 hb
  cases hok : okP4 a0 a1 a2 a3 n
  · simp only [hok] at p q
    exact ⟨0, 0, 0, 0, 22, fit4 (by omega) (by omega) (by omega) (by omega), fun w => ⟨p w, q w⟩⟩
  · simp only [hok] at p q
    exact ⟨_, _, _, _, 0, fit4 (fl_fit a0 _ h0) (fl_fit a1 _ h1) (fl_fit a2 _ h2) (fl_fit a3 _ h3), fun w => ⟨p w, q w⟩⟩

set_option maxRecDepth 100000 in
theorem addrChecks_open {H : Type} {enc : TypeId × Value → H} {W : World} {base : Nat} (tb : Tabs W ∧ Tz W) (v0 v1 v2 v3 : Value) {d0 d1 d2 d3 : DataW H} {p0 p1 p2 p3 : List MemPlace}
    (o0 : Value.okWide Tryd.prog W .any base 38 v0) (h0 : DataW.Trod enc Tryd.prog W 0 (fun _ => true) true 38 v0 d0 p0)
    (o1 : Value.okWide Tryd.prog W .any base 38 v1) (h1 : DataW.Trod enc Tryd.prog W 0 (fun _ => true) true 38 v1 d1 p1)
    (o2 : Value.okWide Tryd.prog W .any base 23 v2) (h2 : DataW.Trod enc Tryd.prog W 0 (fun _ => true) true 23 v2 d2 p2)
    (o3 : Value.okWide Tryd.prog W .any base 3 v3) (h3 : DataW.Trod enc Tryd.prog W 0 (fun _ => true) true 3 v3 d3 p3) :
    Calls Tryd.prog 7 #[v0, v1, v2, v3] W fun e w' => e = .returned (.bool true) ∧ Below W.heap.size W w' := by
  obtain ⟨a0, a1, a2, a3, n, rfl, f0, f1, f2, f3, wn⟩ := open_prefix4 h0
  obtain ⟨b0, b1, b2, b3, m, rfl, g0, g1, g2, g3, wm⟩ := open_prefix4 h1
  obtain ⟨c0, c1, c2, c3, rfl, e0, e1, e2, e3⟩ := open_addr4 h2
  obtain ⟨k, rfl, _, _, wk⟩ := open_int Tryd.underlying3 o3 h3
  have hn := bounds_i64 wn
  have hm := bounds_i64 wm
  have hk := bounds_i64 wk
  obtain ⟨r0, r1, r2, r3, rn, i, hr, hcut⟩ := cut_both c0 c1 c2 c3 k e0 e1 e2 e3 hk
  obtain ⟨t0, t1, t2, t3, l, ht, hlast⟩ := last_both a0 a1 a2 a3 n f0 f1 f2 f3 hn
  refine addrChecks_core a0 a1 a2 a3 n b0 b1 b2 b3 m c0 c1 c2 c3 k r0 r1 r2 r3 rn t0 t1 t2 t3 _ _ _ _ i l _ W hr ht (fun w => ⟨Has4_calls a0 a1 a2 a3 n c0 c1 c2 c3 w ⟨f0, f1, f2, f3, hn⟩ e0 e1 e2 e3, RHas4_calls a0 a1 a2 a3 n c0 c1 c2 c3 w f0 f1 f2 f3 hn e0 e1 e2 e3⟩)
    (fun w => ⟨Cover4_calls a0 a1 a2 a3 n b0 b1 b2 b3 m w ⟨f0, f1, f2, f3, hn⟩ ⟨g0, g1, g2, g3, hm⟩, ?_⟩) hcut hlast (fun w => ⟨Check4_calls a0 a1 a2 a3 n w f0 f1 f2 f3 hn, RCheck4_calls a0 a1 a2 a3 n w f0 f1 f2 f3 hn⟩) (Awake.on tb)
  have := RCover4_calls a0 a1 a2 a3 n b0 b1 b2 b3 m w f0 f1 f2 f3 hn g0 g1 g2 g3 hm
  rw [cov_same] at this
  exact this

end Go.Proofs.YthejkiocndoflaaDoor
