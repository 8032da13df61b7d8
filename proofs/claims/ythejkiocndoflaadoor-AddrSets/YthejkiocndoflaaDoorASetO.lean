/-
  The statement AddrSets for every argument.
-/
import Derived.Test.YthejkiocndoflaaDoorAAwk
import Derived.Test.YthejkiocndoflaaDoorASetX
import Derived.Test.YthejkiocndoflaaDoorASetM
namespace Go.Proofs.YthejkiocndoflaaDoor
open Go Go.RowKit Go.ChangeShapes Go.WideShapes Go.ChangeAt
set_option linter.unusedVariables false

set_option maxRecDepth 100000 in
theorem addrSets_open {H : Type} {enc : TypeId × Value → H} {W : World} {base : Nat} (tb : Tabs W ∧ Tz W) (v0 v1 v2 v3 : Value) {d0 d1 d2 d3 : DataW H} {p0 p1 p2 p3 : List MemPlace}
    (o0 : Value.okWide Tryd.prog W .any base 38 v0) (h0 : DataW.Trod enc Tryd.prog W 0 (fun _ => true) true 38 v0 d0 p0)
    (o1 : Value.okWide Tryd.prog W .any base 38 v1) (h1 : DataW.Trod enc Tryd.prog W 0 (fun _ => true) true 38 v1 d1 p1)
    (o2 : Value.okWide Tryd.prog W .any base 38 v2) (h2 : DataW.Trod enc Tryd.prog W 0 (fun _ => true) true 38 v2 d2 p2)
    (o3 : Value.okWide Tryd.prog W .any base 23 v3) (h3 : DataW.Trod enc Tryd.prog W 0 (fun _ => true) true 23 v3 d3 p3) :
    Calls Tryd.prog 11 #[v0, v1, v2, v3] W fun e w' => e = .returned (.bool true) ∧ Below W.heap.size W w' := by
  obtain ⟨a0, a1, a2, a3, n, rfl, f0, f1, f2, f3, wn⟩ := open_prefix4 h0
  obtain ⟨b0, b1, b2, b3, m, rfl, g0, g1, g2, g3, wm⟩ := open_prefix4 h1
  obtain ⟨c0, c1, c2, c3, k, rfl, q0, q1, q2, q3, wk⟩ := open_prefix4 h2
  obtain ⟨d0, d1, d2, d3, rfl, e0, e1, e2, e3⟩ := open_addr4 h3
  have hn := bounds_i64 wn
  have hm := bounds_i64 wm
  have hk := bounds_i64 wk
  have A : Fits a0 a1 a2 a3 n := ⟨f0, f1, f2, f3, hn⟩
  have B : Fits b0 b1 b2 b3 m := ⟨g0, g1, g2, g3, hm⟩
  have C : Fits c0 c1 c2 c3 k := ⟨q0, q1, q2, q3, hk⟩
  have t1 := fun w => Cover4_calls a0 a1 a2 a3 n b0 b1 b2 b3 m w A B
  have t2 := fun w => Cover4_calls b0 b1 b2 b3 m a0 a1 a2 a3 n w B A
  have t3 := fun w => Cover4_calls b0 b1 b2 b3 m c0 c1 c2 c3 k w B C
  have t4 := fun w => Cover4_calls a0 a1 a2 a3 n c0 c1 c2 c3 k w A C
  unfold bothOk at t1 t2 t3 t4
  cases hbad : (okP4 a0 a1 a2 a3 n && okP4 b0 b1 b2 b3 m && okP4 c0 c1 c2 c3 k)
  · exact sets_bad a0 a1 a2 a3 n b0 b1 b2 b3 m c0 c1 c2 c3 k d0 d1 d2 d3 _ _ _ _ W (okP4 a0 a1 a2 a3 n) (okP4 b0 b1 b2 b3 m) (okP4 c0 c1 c2 c3 k) hbad t1 t2 t3 t4
      (fun w => RCheck4_calls a0 a1 a2 a3 n w f0 f1 f2 f3 hn) (fun w => RCheck4_calls b0 b1 b2 b3 m w g0 g1 g2 g3 hm) (fun w => RCheck4_calls c0 c1 c2 c3 k w q0 q1 q2 q3 hk) (Awake.on tb)
  · simp only [Bool.and_eq_true] at hbad
    obtain ⟨⟨oa, ob⟩, oc⟩ := hbad
    have s1 := fun w => Has4_calls a0 a1 a2 a3 n d0 d1 d2 d3 w A e0 e1 e2 e3
    have s2 := fun w => Has4_calls b0 b1 b2 b3 m d0 d1 d2 d3 w B e0 e1 e2 e3
    have s3 := fun w => Has4_calls a0 a1 a2 a3 n b0 b1 b2 b3 w A g0 g1 g2 g3
    have s4 := fun w => Has4_calls b0 b1 b2 b3 m a0 a1 a2 a3 w B f0 f1 f2 f3
    simp only [oa, ob, oc, Bool.and_self, Bool.true_and, if_true] at t1 t2 t3 t4 s1 s2 s3 s4
    have ha : [a0, a1, a2, a3] = blR n [a0, a1, a2, a3] := by rw [blR4]; simp [okP4] at oa; exact oa.2
    have hb : [b0, b1, b2, b3] = blR m [b0, b1, b2, b3] := by rw [blR4]; simp [okP4] at ob; exact ob.2
    have hc : [c0, c1, c2, c3] = blR k [c0, c1, c2, c3] := by rw [blR4]; simp [okP4] at oc; exact oc.2
    obtain ⟨k1, k2, k3, k4⟩ := setLaws [a0, a1, a2, a3] [b0, b1, b2, b3] [c0, c1, c2, c3] [d0, d1, d2, d3] n m k ha hb hc
    simp only [blR4] at k1 k2 k3 k4
    refine sets_good a0 a1 a2 a3 n b0 b1 b2 b3 m c0 c1 c2 c3 k d0 d1 d2 d3 _ _ _ _ _ _ _ _ W (fit4 f0 f1 f2 f3) k1 (fun hx hy => ?_) k3 k4 t1 t2 t3 t4 s1 s2 s3 s4 (Awake.on tb)
    obtain ⟨e, hmn⟩ := k2 hx hy
    injection e with e0 e
    injection e with e1 e
    injection e with e2 e
    injection e with e3 e
    exact ⟨e0, e1, e2, e3, hmn⟩

end Go.Proofs.YthejkiocndoflaaDoor
