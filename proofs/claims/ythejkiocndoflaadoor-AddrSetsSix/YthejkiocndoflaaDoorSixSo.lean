/-
  The statement AddrSetsSix for every argument.
-/
import Derived.Test.YthejkiocndoflaaDoorSixSx
import Derived.Test.YthejkiocndoflaaDoorAAwk
namespace Go.Proofs.YthejkiocndoflaaDoor
open Go Go.RowKit Go.ChangeShapes Go.WideShapes Go.ChangeAt
set_option linter.unusedVariables false

set_option maxRecDepth 100000 in
theorem addrSetsSix_open {H : Type} {enc : TypeId × Value → H} {W : World} {base : Nat} (tb : Tabs W ∧ Tz W) (v0 v1 v2 v3 : Value) {d0 d1 d2 d3 : DataW H} {p0 p1 p2 p3 : List MemPlace}
    (o0 : Value.okWide Tryd.prog W .any base 40 v0) (h0 : DataW.Trod enc Tryd.prog W 0 (fun _ => true) true 40 v0 d0 p0)
    (o1 : Value.okWide Tryd.prog W .any base 40 v1) (h1 : DataW.Trod enc Tryd.prog W 0 (fun _ => true) true 40 v1 d1 p1)
    (o2 : Value.okWide Tryd.prog W .any base 40 v2) (h2 : DataW.Trod enc Tryd.prog W 0 (fun _ => true) true 40 v2 d2 p2)
    (o3 : Value.okWide Tryd.prog W .any base 31 v3) (h3 : DataW.Trod enc Tryd.prog W 0 (fun _ => true) true 31 v3 d3 p3) :
    Calls Tryd.prog 12 #[v0, v1, v2, v3] W fun e w' => e = .returned (.bool true) ∧ Below W.heap.size W w' := by
  obtain ⟨a, n, rfl, la, fa, wn⟩ := open_prefix6 h0
  obtain ⟨b, m, rfl, lb, fb, wm⟩ := open_prefix6 h1
  obtain ⟨c, k, rfl, lc, fc, wk⟩ := open_prefix6 h2
  obtain ⟨d, rfl, ld, fd⟩ := open_addr6 h3
  have hn := bounds_i64 wn
  have hm := bounds_i64 wm
  have hk := bounds_i64 wk
  have t1 := fun w => Cover6_calls a n b m w fa la fb lb hn hm
  have t2 := fun w => Cover6_calls b m a n w fb lb fa la hm hn
  have t3 := fun w => Cover6_calls b m c k w fb lb fc lc hm hk
  have t4 := fun w => Cover6_calls a n c k w fa la fc lc hn hk
  unfold both6 at t1 t2 t3 t4
  cases hbad : (okP6 a n && okP6 b m && okP6 c k)
  · exact setsSix_bad a b c d n m k _ _ _ _ W (okP6 a n) (okP6 b m) (okP6 c k) hbad la lb lc ld t1 t2 t3 t4
      (fun w => RCheck6_calls a n w fa la hn) (fun w => RCheck6_calls b m w fb lb hm) (fun w => RCheck6_calls c k w fc lc hk) (Awake.on tb)
  · simp only [Bool.and_eq_true] at hbad
    obtain ⟨⟨oa, ob⟩, oc⟩ := hbad
    have s1 := fun w => Has6_calls a n d w fa la fd ld hn
    have s2 := fun w => Has6_calls b m d w fb lb fd ld hm
    have s3 := fun w => Has6_calls a n b w fa la fb lb hn
    have s4 := fun w => Has6_calls b m a w fb lb fa la hm
    simp only [oa, ob, oc, Bool.and_self, Bool.true_and, if_true] at t1 t2 t3 t4 s1 s2 s3 s4
    have ha : a = blR n a := by simp [okP6] at oa; exact oa.2
    have hb : b = blR m b := by simp [okP6] at ob; exact ob.2
    have hc : c = blR k c := by simp [okP6] at oc; exact oc.2
    obtain ⟨k1, k2, k3, k4⟩ := setLaws a b c d n m k ha hb hc
    exact setsSix_good a b c d n m k _ _ _ _ _ _ _ _ W fa la lb lc ld k1 k2 k3 k4 t1 t2 t3 t4 s1 s2 s3 s4 (Awake.on tb)

end Go.Proofs.YthejkiocndoflaaDoor
