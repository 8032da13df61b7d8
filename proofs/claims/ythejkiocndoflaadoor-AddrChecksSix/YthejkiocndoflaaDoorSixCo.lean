/-
  The statement AddrChecksSix for every argument.
-/
import Derived.Test.YthejkiocndoflaaDoorSixCk
import Derived.Test.YthejkiocndoflaaDoorAAwk
namespace Go.Proofs.YthejkiocndoflaaDoor
open Go Go.RowKit Go.ChangeShapes Go.WideShapes Go.ChangeAt
set_option linter.unusedVariables false

theorem cut6_both (l : List Int) (n : Int) (hf : FitB l) (hl : l.length = 16) (hb : -9223372036854775808 ≤ n ∧ n ≤ 9223372036854775807) :
    ∃ r rn i, FitB r ∧ r.length = 16 ∧ Both 44 45 #[A6 l, .int .i64 n] (.tuple #[P6 r rn, .int .i64 i]) := by
  by_cases hn : 0 ≤ n ∧ n ≤ 128
  · obtain ⟨m, rfl⟩ := Int.eq_ofNat_of_zero_le hn.1
    exact ⟨_, _, _, blR_fit hf, by rw [blR_length, hl], fun w => ⟨Cut6_yes l m w hf hl hn, RCut6_yes l m w hf hl (by omega)⟩⟩
  · exact ⟨List.replicate 16 0, 0, 5, by intro z hz; rw [List.mem_replicate] at hz; omega, rfl, fun w => ⟨Cut6_no l n w (by omega) hb, RCut6_no l n w (by omega) hb⟩⟩

set_option maxRecDepth 100000 in
theorem addrChecksSix_open {H : Type} {enc : TypeId × Value → H} {W : World} {base : Nat} (tb : Tabs W ∧ Tz W) (v0 v1 v2 v3 : Value) {d0 d1 d2 d3 : DataW H} {p0 p1 p2 p3 : List MemPlace}
    (o0 : Value.okWide Tryd.prog W .any base 40 v0) (h0 : DataW.Trod enc Tryd.prog W 0 (fun _ => true) true 40 v0 d0 p0)
    (o1 : Value.okWide Tryd.prog W .any base 40 v1) (h1 : DataW.Trod enc Tryd.prog W 0 (fun _ => true) true 40 v1 d1 p1)
    (o2 : Value.okWide Tryd.prog W .any base 31 v2) (h2 : DataW.Trod enc Tryd.prog W 0 (fun _ => true) true 31 v2 d2 p2)
    (o3 : Value.okWide Tryd.prog W .any base 3 v3) (h3 : DataW.Trod enc Tryd.prog W 0 (fun _ => true) true 3 v3 d3 p3) :
    Calls Tryd.prog 8 #[v0, v1, v2, v3] W fun e w' => e = .returned (.bool true) ∧ Below W.heap.size W w' := by
  obtain ⟨l, n, rfl, ll, lf, wn⟩ := open_prefix6 h0
  obtain ⟨q, m, rfl, ql, qf, wm⟩ := open_prefix6 h1
  obtain ⟨a, rfl, al, af⟩ := open_addr6 h2
  obtain ⟨k, rfl, _, _, wk⟩ := open_int Tryd.underlying3 o3 h3
  have hn := bounds_i64 wn
  have hm := bounds_i64 wm
  have hk := bounds_i64 wk
  obtain ⟨r, rn, i, rf, rl, hcut⟩ := cut6_both a k af al hk
  exact checksSix_core l q a r n m k rn _ _ _ _ i _ W ll ql al rl rf (fun w => ⟨Has6_calls l n a w lf ll af al hn, RHas6_calls l n a w lf ll af al hn⟩)
    (fun w => ⟨Cover6_calls l n q m w lf ll qf ql hn hm, RCover6_calls l n q m w lf ll qf ql hn hm⟩) hcut (fun w => ⟨Check6_calls l n w lf ll hn, RCheck6_calls l n w lf ll hn⟩) (Awake.on tb)

end Go.Proofs.YthejkiocndoflaaDoor
