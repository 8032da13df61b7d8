/-
  Both readers of prefixes, of any text, say the same.
  The document's Say6 and Say4, of any prefix.
  The statement AddrSixes for every argument: the walk.
  The statement AddrPrefixes for every argument.
-/
import Derived.Test.YtlpbffcijhgelaaDoorFold08
import Derived.Test.YtlpbffcijhgelaaDoorFold07
import Derived.Test.YtlpbffcijhgelaaDoorFold05
import Derived.Test.YtlpbffcijhgelaaDoorFold04
namespace Go.Proofs.YtlpbffcijhgelaaDoor
set_option linter.unusedVariables false
set_option linter.unusedSimpArgs false
open Go Go.RowKit

theorem slashN_le (l : List Int) : ∀ f n, slashN l f n ≤ n + f
  | 0, n => Nat.le_refl _
  | f + 1, n => by
    rw [slashN]
    split
    · omega
    · have := slashN_le l f (n + 1); omega
theorem lenN_le (l : List Int) (m : Int) : ∀ f n, lenN l m f n ≤ n + f
  | 0, n => Nat.le_refl _
  | f + 1, n => by
    rw [lenN]
    split
    · have := lenN_le l m f (n + 1); omega
    · omega
theorem lenN_oct (l : List Int) (m : Int) : ∀ f n, octB (l.take n) m = true → octB (l.take (lenN l m f n)) m = true
  | 0, n, h => h
  | f + 1, n, h => by
    rw [lenN]
    split
    · rename_i h'
      exact lenN_oct l m f (n + 1) h'
    · exact h
theorem oct_digits {q : List Int} {m : Int} (hm : 0 ≤ m) (h : octB q m = true) : q.all digB = true ∧ 0 ≤ numF 0 q ∧ numF 0 q ≤ m := by
  cases q with
  | nil => exact ⟨rfl, by decide, hm⟩
  | cons a r =>
    unfold octB at h
    simp only [List.isEmpty_cons, Bool.false_or, Bool.and_eq_true, decide_eq_true_eq] at h
    exact ⟨h.2.1, (numF_range _ 0 (by omega) h.2.1).1, h.2.2⟩

theorem RPrefix6_any (s : ByteArray) (hs : s.size ≤ 140737488355328) (w : World) : Calls Tryd.prog 25 #[.string s] w fun e w' => Px6 (rprefix rparse6 128 okP6 zero16 (txt s)) w e w' := by
  have hl := txt_length s
  obtain ⟨at_, hat⟩ : ∃ at_, at_ = slashN (txt s) s.size 0 := ⟨_, rfl⟩
  have hle : at_ ≤ s.size := by have := slashN_le (txt s) s.size 0; omega
  have hex : (s.extract 0 at_).size = at_ := by rw [ByteArray.size_extract]; omega
  have htx : txt (s.extract 0 at_) = (txt s).take at_ := by rw [txt_extract]; simp
  have hpa := fun W => RParse6_any (s.extract 0 at_) (by omega) W
  have hfit : FitB (rparse6 (txt (s.extract 0 at_))).1 ∧ (rparse6 (txt (s.extract 0 at_))).1.length = 16 := by
    have e : rparse6 (txt (s.extract 0 at_)) = _ := parse6_both (s.extract 0 at_).data.toList
    rw [e]
    exact parse6_fit _
  unfold rprefix
  rw [hl, ← hat]
  simp only
  rw [← htx]
  generalize rparse6 (txt (s.extract 0 at_)) = r at *
  obtain ⟨A, m, er⟩ := r
  simp only at hfit ⊢
  obtain ⟨h10, h9⟩ := hfit
  by_cases he : er = 0
  · rw [if_neg (by simpa using he)]
    by_cases hn : at_ = s.size
    · rw [if_pos hn]
      exact Prefix6_noslash s at_ A m er hs hat.symm hle hpa h9 h10 he hn w
    · rw [if_neg hn]
      have hrs : (s.extract (at_ + 1) s.size).size = s.size - (at_ + 1) := by rw [ByteArray.size_extract]; omega
      have htr : txt (s.extract (at_ + 1) s.size) = (txt s).drop (at_ + 1) := by
        rw [txt_extract, List.take_of_length_le]
        rw [List.length_drop, hl]
        omega
      have hlr : ((txt s).drop (at_ + 1)).length = (s.extract (at_ + 1) s.size).size := by rw [← htr, txt_length]
      rw [hlr]
      obtain ⟨N, hN⟩ : ∃ N, N = lenN ((txt s).drop (at_ + 1)) 128 (s.extract (at_ + 1) s.size).size 0 := ⟨_, rfl⟩
      have hNle : N ≤ (s.extract (at_ + 1) s.size).size := by have := lenN_le ((txt s).drop (at_ + 1)) 128 (s.extract (at_ + 1) s.size).size 0; omega
      have hoct : octB (((txt s).drop (at_ + 1)).take N) 128 = true := by rw [hN]; exact lenN_oct _ _ _ _ rfl
      have hN3 : N ≤ 3 := by
        have := oct_lenM hoct
        rw [List.length_take, hlr] at this
        omega
      rw [← hN]
      by_cases hb : N < (s.extract (at_ + 1) s.size).size ∨ N = 0
      · rw [if_pos hb]
        exact Prefix6_badlen s at_ A m er hs hat.symm hle hpa h9 h10 he (by omega) N (by rw [htr, hN]) hb hN3 w
      · rw [if_neg hb]
        have hNs : N = (s.extract (at_ + 1) s.size).size := by omega
        rw [List.take_of_length_le (by rw [hlr]; omega), ← htr] at hoct
        obtain ⟨d1, d2, d3⟩ := oct_digits (by decide) hoct
        rw [← htr]
        cases hok : okP6 A (numF 0 (txt (s.extract (at_ + 1) s.size))) with
        | true =>
          exact Prefix6_fit s at_ A m er hs hat.symm hle hpa h9 h10 he (by omega) _ (by rw [htr, ← hN, hNs]) (by omega) d1 rfl hok ⟨d2, d3⟩ w
        | false =>
          exact Prefix6_host s at_ A m er hs hat.symm hle hpa h9 h10 he (by omega) _ (by rw [htr, ← hN, hNs]) (by omega) d1 rfl hok ⟨d2, d3⟩ w
  · rw [if_pos (by simpa using he)]
    exact Prefix6_parse s at_ A m er hs hat.symm hle hpa h9 h10 he w
theorem RPrefix4_any (s : ByteArray) (hs : s.size ≤ 140737488355328) (w : World) : Calls Tryd.prog 23 #[.string s] w fun e w' => Px4 (rprefix rparse4 32 okP4L [0, 0, 0, 0] (txt s)) w e w' := by
  have hl := txt_length s
  obtain ⟨at_, hat⟩ : ∃ at_, at_ = slashN (txt s) s.size 0 := ⟨_, rfl⟩
  have hle : at_ ≤ s.size := by have := slashN_le (txt s) s.size 0; omega
  have hex : (s.extract 0 at_).size = at_ := by rw [ByteArray.size_extract]; omega
  have htx : txt (s.extract 0 at_) = (txt s).take at_ := by rw [txt_extract]; simp
  have hpa : ∀ W, Calls Tryd.prog 14 #[.string (s.extract 0 at_)] W fun e w' => Par4R (rparse4 (txt (s.extract 0 at_))) W e w' := fun W => Parse4_wide (s.extract 0 at_) W (by omega)
  have hfit : FitB (rparse4 (txt (s.extract 0 at_))).1 ∧ (rparse4 (txt (s.extract 0 at_))).1.length = 4 := by
    have e : rparse4 (txt (s.extract 0 at_)) = _ := parse_both (s.extract 0 at_).data.toList
    rw [e]
    obtain ⟨x0, x1, x2, x3, e4, f4⟩ := parse4_four (s.extract 0 at_).data.toList
    rw [e4]
    exact ⟨f4, rfl⟩
  unfold rprefix
  rw [hl, ← hat]
  simp only
  rw [← htx]
  generalize rparse4 (txt (s.extract 0 at_)) = r at *
  obtain ⟨A, m, er⟩ := r
  simp only at hfit ⊢
  obtain ⟨h10, h9⟩ := hfit
  by_cases he : er = 0
  · rw [if_neg (by simpa using he)]
    by_cases hn : at_ = s.size
    · rw [if_pos hn]
      exact Prefix4_noslash s at_ A m er hs hat.symm hle hpa h9 h10 he hn w
    · rw [if_neg hn]
      have hrs : (s.extract (at_ + 1) s.size).size = s.size - (at_ + 1) := by rw [ByteArray.size_extract]; omega
      have htr : txt (s.extract (at_ + 1) s.size) = (txt s).drop (at_ + 1) := by
        rw [txt_extract, List.take_of_length_le]
        rw [List.length_drop, hl]
        omega
      have hlr : ((txt s).drop (at_ + 1)).length = (s.extract (at_ + 1) s.size).size := by rw [← htr, txt_length]
      rw [hlr]
      obtain ⟨N, hN⟩ : ∃ N, N = lenN ((txt s).drop (at_ + 1)) 32 (s.extract (at_ + 1) s.size).size 0 := ⟨_, rfl⟩
      have hNle : N ≤ (s.extract (at_ + 1) s.size).size := by have := lenN_le ((txt s).drop (at_ + 1)) 32 (s.extract (at_ + 1) s.size).size 0; omega
      have hoct : octB (((txt s).drop (at_ + 1)).take N) 32 = true := by rw [hN]; exact lenN_oct _ _ _ _ rfl
      have hN3 : N ≤ 3 := by
        have := oct_lenM hoct
        rw [List.length_take, hlr] at this
        omega
      rw [← hN]
      by_cases hb : N < (s.extract (at_ + 1) s.size).size ∨ N = 0
      · rw [if_pos hb]
        exact Prefix4_badlen s at_ A m er hs hat.symm hle hpa h9 h10 he (by omega) N (by rw [htr, hN]) hb hN3 w
      · rw [if_neg hb]
        have hNs : N = (s.extract (at_ + 1) s.size).size := by omega
        rw [List.take_of_length_le (by rw [hlr]; omega), ← htr] at hoct
        obtain ⟨d1, d2, d3⟩ := oct_digits (by decide) hoct
        rw [← htr]
        cases hok : okP4L A (numF 0 (txt (s.extract (at_ + 1) s.size))) with
        | true =>
          exact Prefix4_fit s at_ A m er hs hat.symm hle hpa h9 h10 he (by omega) _ (by rw [htr, ← hN, hNs]) (by omega) d1 rfl hok ⟨d2, d3⟩ w
        | false =>
          exact Prefix4_host s at_ A m er hs hat.symm hle hpa h9 h10 he (by omega) _ (by rw [htr, ← hN, hNs]) (by omega) d1 rfl hok ⟨d2, d3⟩ w
  · rw [if_pos (by simpa using he)]
    exact Prefix4_parse s at_ A m er hs hat.symm hle hpa h9 h10 he w

/-- What the program's Prefix6 says is what the document's says. -/
theorem prefix6_all (s : ByteArray) (hs : s.size ≤ 140737488351232) : ∃ (L : List Int) (n m e : Int), FitB L ∧ L.length = 16 ∧ (-9223372036854775808 ≤ n ∧ n ≤ 9223372036854775807) ∧
    (∀ W, Calls Tryd.prog 24 #[.string s] W fun e' w' => e' = .returned (.tuple #[P6 L n, .int .i64 m, .int .i64 e]) ∧ Below W.heap.size W w') ∧
    (∀ W, Calls Tryd.prog 25 #[.string s] W fun e' w' => e' = .returned (.tuple #[P6 L n, .int .i64 m, .int .i64 e]) ∧ Below W.heap.size W w') := by
  have hb : rprefix rparse6 128 okP6 zero16 (txt s) = _ := prefix_both grpReader Grp.new Grp.addr zero16 zero16 128 (by decide) okP6 Grp.take_slash rparse6 (fun l => by
    rw [parse6_both]
    unfold parse6
    cases grpReader.read l 0 Grp.new <;> rfl) s.data.toList
  have hr := fun W => RPrefix6_any s (by omega) W
  rw [hb] at hr
  have hc := fun W => prefix6_calls s (by omega) W
  have en : Pre.new6 = ⟨Grp.new, false, ⟨0, false⟩⟩ := rfl
  rw [en] at hc
  have hfit : ∀ p : Pre Grp, (preReader grpReader 128).read s.data.toList 0 ⟨Grp.new, false, ⟨0, false⟩⟩ = .good p → FitB p.addr.addr ∧ p.addr.addr.length = 16 ∧ 0 ≤ p.num.value ∧ p.num.value ≤ 128 := fun p hx => by
    have hk := pre_ok6 s.data.toList 0 Pre.new6 p Grp.ok_new ⟨by decide, by decide⟩ hx
    have hw := pre_whole_addr (R := grpReader) (most := 128) s.data.toList 0 Pre.new6 p (fun e => by cases e) (fun e => by cases e) hx
    exact ⟨Grp.addr_fit hk.1, Grp.addr_len hk.1 hw, hk.2.1, hk.2.2⟩
  cases hx : (preReader grpReader 128).read s.data.toList 0 ⟨Grp.new, false, ⟨0, false⟩⟩ with
  | bad k =>
    rw [hx] at hc hr
    exact ⟨zero16, 0, k, 20, zero_fit, rfl, ⟨by decide, by decide⟩, fun W => hc W, fun W => hr W⟩
  | good p =>
    rw [hx] at hc hr
    obtain ⟨k1, k2, k3, k4⟩ := hfit p hx
    cases hq : okP6 p.addr.addr p.num.value with
    | true =>
      refine ⟨p.addr.addr, p.num.value, 0, 0, k1, k2, ⟨by omega, by omega⟩, fun W => Calls.mono (hc W) (fun e w' h => ⟨by rw [h.1]; unfold prefix6E; simp only [hq, if_true], h.2⟩), fun W => Calls.mono (hr W) (fun e w' h => ⟨?_, h.2⟩)⟩
      rw [h.1]
      simp only [hq, if_true]
    | false =>
      refine ⟨zero16, 0, Lib.indexByte s.data.toList 47, 21, zero_fit, rfl, ⟨by decide, by decide⟩, fun W => Calls.mono (hc W) (fun e w' h => ⟨by rw [h.1]; unfold prefix6E; simp only [hq, Bool.false_eq_true, if_false]; rfl, h.2⟩), fun W => Calls.mono (hr W) (fun e w' h => ⟨?_, h.2⟩)⟩
      rw [h.1]
      simp only [hq, Bool.false_eq_true, if_false]
theorem Dot.take_slash (d : Dot) : d.take 47 = none := by
  unfold Dot.take
  rw [if_pos (by decide)]
  unfold Num.take
  rw [if_pos (by omega)]
  rfl
theorem prefix4_all (s : ByteArray) (hs : s.size ≤ 140737488351232) : ∃ (a0 a1 a2 a3 n m e : Int), Byte a0 ∧ Byte a1 ∧ Byte a2 ∧ Byte a3 ∧ (-9223372036854775808 ≤ n ∧ n ≤ 9223372036854775807) ∧
    (∀ W, Calls Tryd.prog 22 #[.string s] W fun e' w' => e' = .returned (.tuple #[P4 a0 a1 a2 a3 n, .int .i64 m, .int .i64 e]) ∧ Below W.heap.size W w') ∧
    (∀ W, Calls Tryd.prog 23 #[.string s] W fun e' w' => e' = .returned (.tuple #[P4 a0 a1 a2 a3 n, .int .i64 m, .int .i64 e]) ∧ Below W.heap.size W w') := by
  have hb : rprefix rparse4 32 okP4L [0, 0, 0, 0] (txt s) = _ := prefix_both dotReader Dot.new Dot.addr [0, 0, 0, 0] [0, 0, 0, 0] 32 (by decide) okP4L Dot.take_slash rparse4 (fun l => by
    have := parse_both l
    rw [this]
    unfold parse4
    cases dotReader.read l 0 Dot.new <;> rfl) s.data.toList
  have hr := fun W => RPrefix4_any s (by omega) W
  rw [hb] at hr
  have hc := fun W => prefix4_calls s (by omega) W
  have en : Pre.new4 = ⟨Dot.new, false, ⟨0, false⟩⟩ := rfl
  rw [en] at hc
  cases hx : (preReader dotReader 32).read s.data.toList 0 ⟨Dot.new, false, ⟨0, false⟩⟩ with
  | bad k =>
    rw [hx] at hc hr
    exact ⟨0, 0, 0, 0, 0, k, 20, ⟨by decide, by decide⟩, ⟨by decide, by decide⟩, ⟨by decide, by decide⟩, ⟨by decide, by decide⟩, ⟨by decide, by decide⟩, fun W => hc W, fun W => hr W⟩
  | good p =>
    rw [hx] at hc hr
    have hk := pre_ok4 s.data.toList 0 Pre.new4 p Dot.ok_new ⟨by decide, by decide⟩ hx
    have hnv := hk.1.num
    have hnm := hk.2
    unfold Num.Ok at hnv hnm
    have eok : okP4L p.addr.addr p.num.value = okP4 p.addr.e0 p.addr.e1 p.addr.e2 p.addr.num.value p.num.value := by unfold okP4 okP4L Dot.addr; rw [blR4]
    cases hq : okP4 p.addr.e0 p.addr.e1 p.addr.e2 p.addr.num.value p.num.value with
    | true =>
      refine ⟨p.addr.e0, p.addr.e1, p.addr.e2, p.addr.num.value, p.num.value, 0, 0, hk.1.e0, hk.1.e1, hk.1.e2, ⟨hnv.1, by omega⟩, ⟨by omega, by omega⟩, fun W => Calls.mono (hc W) (fun e w' h => ⟨by rw [h.1]; unfold prefix4E; simp only [hq, if_true], h.2⟩), fun W => Calls.mono (hr W) (fun e w' h => ⟨?_, h.2⟩)⟩
      rw [h.1]
      simp only [eok, hq, if_true]
      rfl
    | false =>
      refine ⟨0, 0, 0, 0, 0, Lib.indexByte s.data.toList 47, 21, ⟨by decide, by decide⟩, ⟨by decide, by decide⟩, ⟨by decide, by decide⟩, ⟨by decide, by decide⟩, ⟨by decide, by decide⟩, fun W => Calls.mono (hc W) (fun e w' h => ⟨by rw [h.1]; unfold prefix4E; simp only [hq, Bool.false_eq_true, if_false], h.2⟩), fun W => Calls.mono (hr W) (fun e w' h => ⟨?_, h.2⟩)⟩
      rw [h.1]
      simp only [eok, hq, Bool.false_eq_true, if_false]
      rfl
end Go.Proofs.YtlpbffcijhgelaaDoor

namespace Go.Proofs.YtlpbffcijhgelaaDoor
open Go Go.RowKit
set_option linter.unusedVariables false
set_option linter.unusedSimpArgs false

theorem rtext6_L (L : List Int) (hf : FitB L) (hl : L.length = 16) (w : World) (ht : Tz w) :
    Calls Tryd.prog 21 #[A6 L] w fun e w' => e = .returned (strV (own6 (prs L))) ∧ Below w.heap.size w w' := by
  obtain ⟨a0, a1, a2, a3, a4, a5, a6, a7, a8, a9, a10, a11, a12, a13, a14, a15, rfl⟩ := six16 hl
  have hz := fun z h => hf z h
  simp only [List.mem_cons, List.not_mem_nil, or_false, forall_eq_or_imp, forall_eq] at hz
  obtain ⟨z0, z1, z2, z3, z4, z5, z6, z7, z8, z9, z10, z11, z12, z13, z14, z15⟩ := hz
  exact rtext6_all a0 a1 a2 a3 a4 a5 a6 a7 a8 a9 a10 a11 a12 a13 a14 a15 z0 z1 z2 z3 z4 z5 z6 z7 z8 z9 z10 z11 z12 z13 z14 z15 w ht

set_option maxHeartbeats 4000000 in
set_option maxRecDepth 100000 in
theorem rsay6_calls (L : List Int) (n : Int) (hf : FitB L) (hl : L.length = 16) (w : World) (hb : -9223372036854775808 ≤ n ∧ n ≤ 9223372036854775807) (ht : Tabs w) (htz : Tz w) :
    Calls Tryd.prog 29 #[P6 L n] w fun e w' => PxPost (say6E L n) w e w' := by
  generalize hQ : (fun e w' => PxPost (say6E L n) w e w') = Q
  have HQ : Hid _ := hQ
  clear hQ
  have HC : Hid _ := fun W => RCheck6_calls L n W hf hl hb
  have hB0 := (Below.refl w.heap.size w).alloc (Nat.le_refl _) (.cells (cp6 L n).toArray 40)
  have hb0 := blk_new w (.cells (cp6 L n).toArray 40)
  generalize hW0 : w.alloc (.cells (cp6 L n).toArray 40) = W0 at *
  have HW0 : Hid _ := hW0
  have HLP : Hid _ := loadP6 hl (CellsAt.pfx hl hb0).1
  clear hW0
  go_enter Tryd.func29, Tryd.ntmps29
  go_wp2_with first
    | ((with_reducible show wpList _ _ _ _ _ _); rw [HW0.out]; refine armL (.tmp 1) 40 rfl rfl rfl HLP.out ?_)
  refine Calls.mono (HC.out _) ?_
  rintro e w1 ⟨rfl, hB1⟩
  have hBw1 := hB0.trans (hB1.mono hB0.size)
  have hb1 := (hB1.block w.heap.size (Array.getElem?_eq_some_iff.1 hb0).1).trans hb0
  have HT : Hid (Tabs w1) := tabs_on (w := w) ht hBw1
  have HZ : Hid (Tz w1) := Tz.on htz hBw1
  have l1 := (Array.getElem?_eq_some_iff.1 hb1).1
  clear HC HLP HW0 hb0 hB0 hB1 ht htz
  cases hq : okP6 L n
  · have HE : Hid (say6E L n = .tuple #[.string ⟨#[]⟩, .int .i64 22]) := by unfold say6E; rw [hq]; rfl
    simp only [Bool.false_eq_true, if_false]
    go_wp2
    try go_ret2
    rw [← HQ.out]
    exact ⟨by rw [HE.out]; rfl, hBw1⟩
  · have HE : Hid (say6E L n = .tuple #[.string ((⟨(own6 (prs L)).toArray⟩ : ByteArray) ++ ⟨#[47]⟩ ++ ⟨(Lib.itoa n).toArray⟩), .int .i64 0]) := by unfold say6E; rw [hq]; rfl
    have hn : 0 ≤ n ∧ n ≤ 128 := by
      unfold okP6 at hq
      simp only [Bool.and_eq_true, decide_eq_true_eq] at hq
      exact hq.1
    have HX : Hid (∀ x : Hi w1, Calls Tryd.prog 21 #[A6 L] x.W fun e w' => e = .returned (strV (own6 (prs L))) ∧ Below x.W.heap.size x.W w') := fun x => rtext6_L L hf hl x.W (Tz.on HZ.out x.below)
    have HI : Hid (∀ x : Hi w1, Calls Tryd.prog 54 #[.int .i64 n] x.W fun e w' => e = .returned (.string ⟨(Lib.itoa n).toArray⟩) ∧ Below x.W.heap.size x.W w') := fun x => itoa_calls n ⟨by omega, by omega⟩ x.W (HT.out _ x.below)
    have HL6 : Hid (∀ x : Hi w1, (Instr.loadAt 31 (.pointer (some ⟨w.heap.size, 0, none⟩))).run Tryd.prog x.W = .ok (A6 L) x.W) := fun x => load6 hl (CellsAt.pfx hl (Hi.blk hb1 x)).2.1
    have c16 : ∀ x : Hi w1, x.W.cell? ⟨w.heap.size, 16, none⟩ = some (.int .i64 n) := fun x => (CellsAt.pfx hl (Hi.blk hb1 x)).2.2
    have hSz : (⟨(own6 (prs L)).toArray⟩ : ByteArray).size ≤ 202 := own_len (prs L) (prs_byt L hf hl).2.1
    have hIz : (⟨(Lib.itoa n).toArray⟩ : ByteArray).size ≤ 1000 := itoa_len ⟨by omega, by omega⟩
    have HX' : Hid (∀ x : Hi w1, Calls Tryd.prog 21 #[A6 L] x.W fun e w' => e = .returned (.string ⟨(own6 (prs L)).toArray⟩) ∧ Below x.W.heap.size x.W w') := HX.out
    generalize (⟨(own6 (prs L)).toArray⟩ : ByteArray) = S at HX' HE hSz
    generalize (⟨(Lib.itoa n).toArray⟩ : ByteArray) = I at HI HE hIz
    have cat1 : ∀ W, (Op.stringOp .add S ⟨#[47]⟩).run Tryd.prog W = .ok (.string (S ++ ⟨#[47]⟩)) W := fun W => run_string_add_sum W _ _ (by show S.size + 1 ≤ _; omega)
    have hSq : (S ++ (⟨#[47]⟩ : ByteArray)).size ≤ 4004 := by rw [ByteArray.size_append']; show S.size + 1 ≤ _; omega
    generalize hS2 : S ++ (⟨#[47]⟩ : ByteArray) = S2 at HE hSq cat1
    have cat2 : ∀ W, (Op.stringOp .add S2 I).run Tryd.prog W = .ok (.string (S2 ++ I)) W := fun W => run_string_add_sum W _ _ (by omega)
    clear hS2 hSz hSq hIz HX
    simp only [if_true]
    go_wp2_with fail
    refine wp_region_hi (by kernel_rfl) (by kernel_rfl) ?_
    repeat (first | go_big_quiet_skip | (go_big_quiet_want; refine hi_load (.tmp 7) 31 rfl rfl HL6.out ?_; simp only [Act.put, List.setIfInBounds_toArray, List.set_cons_zero, List.set_cons_succ]; go_big_quiet_on) | (go_big_quiet_want; go_big_quiet_op; first | go_big_quiet_on | go_big_quiet_call (first | (go_at_call 21; with_reducible exact Hi.calls (HX'.out _)) | (go_at_call 54; with_reducible exact Hi.calls (HI.out _)))))
    refine wpQuiet_nil ?_
    intro _ hw
    obtain ⟨y, rfl⟩ := hw
    go_wp2
    try go_ret2
    rw [← HQ.out]
    exact ⟨by rw [HE.out]; rfl, hBw1.trans (y.below.mono hBw1.size)⟩

set_option maxHeartbeats 8000000 in
set_option maxRecDepth 100000 in
theorem rsay4_calls (a0 a1 a2 a3 n : Int) (w : World) (h0 : Byte a0) (h1 : Byte a1) (h2 : Byte a2) (h3 : Byte a3) (hb : -9223372036854775808 ≤ n ∧ n ≤ 9223372036854775807) (ht : Tabs w) :
    Calls Tryd.prog 27 #[P4 a0 a1 a2 a3 n] w fun e w' => e = .returned (say4E a0 a1 a2 a3 n) ∧ Below w.heap.size w w' := by
  have HC : Hid _ := fun W => RCheck4_calls a0 a1 a2 a3 n W h0 h1 h2 h3 hb
  have HX : Hid (∀ W, Tabs W → Calls Tryd.prog 16 #[addrV [a0, a1, a2, a3]] W fun e w' => e = .returned (.string ⟨(text4 [a0, a1, a2, a3]).toArray⟩) ∧ Below W.heap.size W w') := fun W => RText4_calls a0 a1 a2 a3 h0 h1 h2 h3 W
  have hSz : (⟨(text4 [a0, a1, a2, a3]).toArray⟩ : ByteArray).size ≤ 4003 := text4_len h0 h1 h2 h3
  have HT : Hid (Tabs w) := ht
  clear ht
  go_enter Tryd.func27, Tryd.ntmps27
  go_wp2_with fail
  refine Calls.mono (HC.out _) ?_
  rintro e w1 ⟨rfl, hB1⟩
  obtain ⟨c0, c1, c2, c3, c4⟩ := box5 w _ _ _ _ _ _ hB1
  have hB : Below w.heap.size w w1 := ((Below.refl _ w).alloc (Nat.le_refl _) _).trans (hB1.mono (by simp))
  have HU : Hid (Tabs w1) := tabs_on (w := w) HT.out hB
  have lt := World.block_lt_of_cell? w1 _ c4
  clear hB1 HC
  cases hq : okP4 a0 a1 a2 a3 n
  · have HE : Hid (say4E a0 a1 a2 a3 n = .tuple #[.string ⟨#[]⟩, .int .i64 22]) := by unfold say4E; rw [hq]; rfl
    simp only [Bool.false_eq_true, if_false]
    go_wp2
    go_ret2
    exact ⟨by rw [HE.out]; rfl, hB⟩
  · have HE : Hid (say4E a0 a1 a2 a3 n = .tuple #[.string ((⟨(text4 [a0, a1, a2, a3]).toArray⟩ : ByteArray) ++ ⟨#[47]⟩ ++ ⟨(Lib.itoa n).toArray⟩), .int .i64 0]) := by unfold say4E; rw [hq]; rfl
    have hn : Byte n := by
      unfold okP4 at hq
      simp only [Bool.and_eq_true, decide_eq_true_eq] at hq
      exact ⟨by omega, by omega⟩
    have HI : Hid _ := fun W => itoa_calls n hn W
    have hIz : (⟨(Lib.itoa n).toArray⟩ : ByteArray).size ≤ 1000 := itoa_len hn
    generalize (⟨(text4 [a0, a1, a2, a3]).toArray⟩ : ByteArray) = S at HX HE hSz
    generalize (⟨(Lib.itoa n).toArray⟩ : ByteArray) = I at HI HE hIz
    have cat1 : ∀ W, (Op.stringOp .add S ⟨#[47]⟩).run Tryd.prog W = .ok (.string (S ++ ⟨#[47]⟩)) W := fun W => run_string_add_sum W _ _ (by show S.size + 1 ≤ _; omega)
    have hSq : (S ++ (⟨#[47]⟩ : ByteArray)).size ≤ 4004 := by rw [ByteArray.size_append']; show S.size + 1 ≤ _; omega
    generalize hS2 : S ++ (⟨#[47]⟩ : ByteArray) = S2 at HE hSq cat1
    have cat2 : ∀ W, (Op.stringOp .add S2 I).run Tryd.prog W = .ok (.string (S2 ++ I)) W := fun W => run_string_add_sum W _ _ (by omega)
    clear hS2 hSz hSq hIz
    simp only [if_true]
    go_wp2_with fail
    go_region_with (first
      | (go_at_call 16; refine Calls.mono (HX.out _ (tabs_on (w := w1) HU.out (Below.refl _ _).drew)) ?_; rintro e w2 ⟨rfl, hB2⟩; have BB := ((Below.refl w1.heap.size w1).drew).trans hB2; have q4 := (BB.cell (p := ⟨w.heap.size, 4, none⟩) lt).trans c4)
      | (go_at_call 54; refine Calls.mono (HI.out _ (HU.out _ BB)) ?_; rintro e w3 ⟨rfl, hB3⟩; have BC := BB.trans (hB3.mono BB.size)))
    all_goals
      go_wp2
      go_ret2
      exact ⟨by rw [HE.out]; rfl, hB.trans (BC.mono hB.size)⟩

end Go.Proofs.YtlpbffcijhgelaaDoor

namespace Go.Proofs.YtlpbffcijhgelaaDoor
open Go Go.RowKit Go.ChangeShapes Go.WideShapes Go.ChangeAt
set_option linter.unusedVariables false
set_option linter.unusedSimpArgs false

theorem CellsAt.blkF {w : World} {b : Nat} {c : List Value} {t : TypeId} (h : w.heap[b]? = some (.cells c.toArray t)) : CellsAt w b 0 c := fun j v hj => by
  rw [Nat.zero_add]
  exact blk_cell h hj
theorem armLF {P : Program} {w : World} {ops : Array Oper} {rest : List Oper} {o : Oper} {a : Act} {Q : Exit → Act → World → Prop} (p : Operand) (t : TypeId) (hop : o.op = Op.load t p) (hw : Region.wanted o (yielded ops a.tmps) = true) {vp v : Value} (hp : a.eval p = vp) (hrun : (Instr.loadAt t vp).run P w = .ok v w) (hK : wpList P ops Q rest (a.put o.dst v) w) : wpList P ops Q (o :: rest) a w :=
  arm_load hw p t hop hp hrun hK
theorem gdA6F (b : BinOp) (x y : Operand) (u v : Array Value) (w : World) : (eqGuard b 31 x y (.agg u) (.agg v)).run Tryd.prog w = .ok () w := by
  have he : Tryd.prog.eqGuardType Tryd.prog.depth 31 = false := by kernel_rfl
  cases b <;> simp [eqGuard, go_sem, he]
theorem eqlA6s (zs : List Int) (h : FitB zs) (hl : zs.length = 16) (w : World) : (binOp .eql 31 (A6 zs) (A6 zs)).run Tryd.prog w = .ok (.bool true) w := by
  have := eq_arr16 9998 zs zs h h hl hl w
  simp only [binOp, Op.equal, Op.maxDepth]
  simp [this]
set_option maxHeartbeats 1000000 in
set_option maxRecDepth 100000 in
theorem addrSixes_walk (s : ByteArray) (hs : s.size ≤ 140737488351232) (w : World) (tb : Tabs w ∧ Tz w) :
    Calls Tryd.prog 4 #[.string s] w fun e w' => e = .returned (.bool true) ∧ Below w.heap.size w w' := by
  obtain ⟨L, m, er, fL, lL, g1, g2⟩ := parse6_all s hs
  have H1 : Hid _ := g1
  have H2 : Hid _ := g2
  have HAW : Hid (∀ W, Below w.heap.size w W → Calls Tryd.prog 17 #[] W fun e w' => e = .returned (.bool true) ∧ Below W.heap.size W w') := fun W hW => Awake.on tb W hW
  clear g1 g2 tb
  go_enter Tryd.func4, Tryd.ntmps4
  go_wp2_with fail
  refine (H1.out _).mono ?_
  rintro e w2 ⟨rfl, hB2⟩
  obtain ⟨w3, hst3, hb3, hB3⟩ := box_new (ty := 31) (n := 16) (fun w => by kernel_rfl) w2 [.int .u8 0, .int .u8 0, .int .u8 0, .int .u8 0, .int .u8 0, .int .u8 0, .int .u8 0, .int .u8 0, .int .u8 0, .int .u8 0, .int .u8 0, .int .u8 0, .int .u8 0, .int .u8 0, .int .u8 0, .int .u8 0] rfl (u8s L) (by rw [u8s_length, lL]) (u8s_one L)
  have HS3 : Hid _ := hst3
  have hBw3 := hB2.trans (hB3.mono hB2.size)
  clear hst3 H1 hB2 hB3
  go_wp2_with ((with_reducible show wpList _ _ _ _ _ _); refine armS (.tmp 3) (.tmp 12) 31 rfl rfl rfl rfl HS3.out ?_)
  refine (H2.out _).mono ?_
  rintro e w4 ⟨rfl, hB4⟩
  have hb4 := (hB4.block _ (Array.getElem?_eq_some_iff.1 hb3).1).trans hb3
  have hBw4 := hBw3.trans (hB4.mono hBw3.size)
  obtain ⟨w5, hst5, hb5, hB5⟩ := box_new (ty := 31) (n := 16) (fun w => by kernel_rfl) w4 [.int .u8 0, .int .u8 0, .int .u8 0, .int .u8 0, .int .u8 0, .int .u8 0, .int .u8 0, .int .u8 0, .int .u8 0, .int .u8 0, .int .u8 0, .int .u8 0, .int .u8 0, .int .u8 0, .int .u8 0, .int .u8 0] rfl (u8s L) (by rw [u8s_length, lL]) (u8s_one L)
  have hb35 := (hB5.block _ (Array.getElem?_eq_some_iff.1 hb4).1).trans hb4
  have HS5 : Hid _ := hst5
  have HL5 : Hid _ := load6 lL (CellsAt.blkF hb5)
  have HL35 : Hid _ := load6 lL (CellsAt.blkF hb35)
  have HBX : Hid (Below w.heap.size w w5) := hBw4.trans (hB5.mono hBw4.size)
  have HEQ : Hid _ := eqlA6s L fL lL w5
  have e1 : (m == m) = true := beq_self_eq_true m
  have e2 : (er == er) = true := beq_self_eq_true er
  clear hst5 hb3 hBw3 hB4 hb4 hBw4 hb5 hB5 hb35 H2 HS3
  go_wp2_with first
    | ((with_reducible show wpList _ _ _ _ _ _); refine armS (.tmp 6) (.tmp 18) 31 rfl rfl rfl rfl HS5.out ?_)
    | ((with_reducible show wpList _ _ _ _ _ _); refine armLF (.tmp 6) 31 rfl rfl rfl HL5.out ?_)
    | ((with_reducible show wpList _ _ _ _ _ _); refine armLF (.tmp 3) 31 rfl rfl rfl HL35.out ?_)
    | ((with_reducible show wpList _ _ _ _ _ _); refine arm_bin rfl .eql 31 _ (.tmp 21) (.tmp 22) rfl rfl rfl (gdA6F _ _ _ _ _ _) HEQ.out ?_)
  refine Calls.mono (HAW.out _ HBX.out) ?_
  rintro e w6 ⟨rfl, hB6⟩
  have HBE : Hid (Below w.heap.size w w6) := HBX.out.trans (hB6.mono HBX.out.size)
  clear hB6
  go_wp2
  go_ret
  exact ⟨rfl, HBE.out⟩

set_option maxRecDepth 100000 in
theorem addrSixes_open {H : Type} {enc : TypeId × Value → H} {W : World} {base : Nat} (tb : Tabs W ∧ Tz W) (v0 : Value) {d0 : DataW H} {p0 : List MemPlace}
    (o0 : Value.okWide Tryd.prog W .any base 9 v0) (h0 : DataW.Trod enc Tryd.prog W 0 (fun _ => true) true 9 v0 d0 p0) (z0 : ∀ k ∈ d0.weights Tryd.prog 9, k ≤ reachBytes) :
    Calls Tryd.prog 4 #[v0] W fun e w' => e = .returned (.bool true) ∧ Below W.heap.size W w' := by
  obtain ⟨s, rfl, hs⟩ := open_text o0 h0 z0
  exact addrSixes_walk s hs W tb
end Go.Proofs.YtlpbffcijhgelaaDoor

namespace Go.Proofs.YtlpbffcijhgelaaDoor
open Go Go.RowKit Go.ChangeShapes Go.WideShapes Go.ChangeAt
set_option linter.unusedVariables false
set_option linter.unusedSimpArgs false

theorem cp4_fst (l : List Int) (n : Int) (hl : l.length = 4) : (cp4 l n).toArray.extract 0 4 = (b8 l).toArray := by
  have : (b8 l).length = 4 := by rw [b8_length, hl]
  apply Array.ext'
  simp [cp4, this]
theorem cp4_snd (l : List Int) (n : Int) (hl : l.length = 4) : (cp4 l n).toArray[4]? = some (Value.int .i64 n) := by
  have : (b8 l).length = 4 := by rw [b8_length, hl]
  simp [cp4, this]
set_option maxHeartbeats 1000000 in
set_option maxRecDepth 100000 in
theorem eqP4L (d : Nat) (zs ys : List Int) (n m : Int) (h : FitB zs) (g : FitB ys) (hl : zs.length = 4) (gl : ys.length = 4) (w : World) :
    (Op.equalIn (d + 3) 38 (P4L zs n) (P4L ys m)).run Tryd.prog w = .ok (decide (zs = ys) && (n == m)) w := by
  have h1 : ∀ W, (Op.equalIn (d + 2) 23 (.agg (b8 zs).toArray) (.agg (b8 ys).toArray)).run Tryd.prog W = .ok (decide (zs = ys)) W := eq_arr4 d zs ys h g hl gl
  have p1 := cp4_fst zs n hl
  have p2 := cp4_fst ys m gl
  have p3 := cp4_snd zs n hl
  have p4 := cp4_snd ys m gl
  have h2 : ∀ W, (Op.equalIn (d + 2) 3 (.int .i64 n) (.int .i64 m)).run Tryd.prog W = .ok (n == m) W := fun W => by simp [Op.equalIn, go_sem]
  unfold P4L
  generalize (cp4 zs n).toArray = x at *
  generalize (cp4 ys m).toArray = y at *
  generalize (b8 zs).toArray = u at *
  generalize (b8 ys).toArray = v at *
  have hstd : Tryd.prog.stoodInHeld 38 = false := by kernel_rfl
  show (Op.equalIn ((d + 2) + 1) _ _ _).run Tryd.prog w = _
  rw [Op.equalIn]
  generalize Op.equalIn (d + 2) = E at *
  generalize decide (zs = ys) = q at *
  generalize (n == m) = r at *
  cases q
  · simp [go_sem, hstd, p1, p2, p3, p4, h1, h2]
  · cases r <;> simp [go_sem, hstd, p1, p2, p3, p4, h1, h2]
theorem neqP4L (zs : List Int) (n : Int) (h : FitB zs) (hl : zs.length = 4) (w : World) : (binOp .neq 38 (P4L zs n) (P4L zs n)).run Tryd.prog w = .ok (.bool false) w := by
  have := eqP4L 9997 zs zs n n h h hl hl w
  simp only [binOp, Op.equal, Op.maxDepth]
  simp [this]
theorem gdP4L (b : BinOp) (x y : Operand) (u v : Array Value) (w : World) : (eqGuard b 38 x y (.agg u) (.agg v)).run Tryd.prog w = .ok () w := by
  have he : Tryd.prog.eqGuardType Tryd.prog.depth 38 = false := by kernel_rfl
  cases b <;> simp [eqGuard, go_sem, he]
theorem neqP6L (zs : List Int) (n : Int) (h : FitB zs) (hl : zs.length = 16) (w : World) : (binOp .neq 40 (P6 zs n) (P6 zs n)).run Tryd.prog w = .ok (.bool false) w := by
  have := neqP6 zs zs n n h h hl hl w
  simpa using this
theorem prefix4_L (s : ByteArray) (hs : s.size ≤ 140737488351232) : ∃ (L : List Int) (n m e : Int), FitB L ∧ L.length = 4 ∧
    (∀ W, Calls Tryd.prog 22 #[.string s] W fun e' w' => e' = .returned (.tuple #[P4L L n, .int .i64 m, .int .i64 e]) ∧ Below W.heap.size W w') ∧
    (∀ W, Calls Tryd.prog 23 #[.string s] W fun e' w' => e' = .returned (.tuple #[P4L L n, .int .i64 m, .int .i64 e]) ∧ Below W.heap.size W w') := by
  obtain ⟨a0, a1, a2, a3, n, m, e, h0, h1, h2, h3, _, k1, k2⟩ := prefix4_all s hs
  exact ⟨[a0, a1, a2, a3], n, m, e, fun z hz => by simp at hz; rcases hz with rfl | rfl | rfl | rfl <;> assumption, rfl, k1, k2⟩
/-- What Say says: a text and an error. -/
theorem say6E_form (L : List Int) (n : Int) : ∃ t e, say6E L n = .tuple #[.string t, .int .i64 e] := by
  unfold say6E
  split <;> exact ⟨_, _, rfl⟩
theorem say4E_form (a0 a1 a2 a3 n : Int) : ∃ t e, say4E a0 a1 a2 a3 n = .tuple #[.string t, .int .i64 e] := by
  unfold say4E
  split <;> exact ⟨_, _, rfl⟩

set_option maxHeartbeats 4000000 in
set_option maxRecDepth 100000 in
theorem addrPrefixes_walk (s : ByteArray) (hs : s.size ≤ 140737488351232) (b0 b1 b2 b3 bn : Int) (f0 : Byte b0) (f1 : Byte b1) (f2 : Byte b2) (f3 : Byte b3) (fn : -9223372036854775808 ≤ bn ∧ bn ≤ 9223372036854775807) (Q : List Int) (qn : Int) (fQ : FitB Q) (lQ : Q.length = 16) (fq : -9223372036854775808 ≤ qn ∧ qn ≤ 9223372036854775807) (w : World) (tb : Tabs w ∧ Tz w) :
    Calls Tryd.prog 6 #[.string s, P4 b0 b1 b2 b3 bn, P6 Q qn] w fun e w' => e = .returned (.bool true) ∧ Below w.heap.size w w' := by
  obtain ⟨L, n4, m4, e4, fL, lL, g1, g2⟩ := prefix4_L s hs
  obtain ⟨M, n6, m6, e6, fM, lM, _, g3, g4⟩ := prefix6_all s hs
  obtain ⟨t4, x4, hs4⟩ := say4E_form b0 b1 b2 b3 bn
  obtain ⟨t6, x6, hs6⟩ := say6E_form Q qn
  have H1 : Hid _ := g1
  have H2 : Hid _ := g2
  have H3 : Hid _ := g3
  have H4 : Hid _ := g4
  have HS1 : Hid (∀ W, Below w.heap.size w W → Calls Tryd.prog 26 #[P4 b0 b1 b2 b3 bn] W fun e w' => e = .returned (.tuple #[.string t4, .int .i64 x4]) ∧ Below W.heap.size W w') := fun W hW => by
    have := say4_calls b0 b1 b2 b3 bn W f0 f1 f2 f3 fn (tabs_on tb.1 hW)
    rw [hs4] at this
    exact this
  have HS2 : Hid (∀ W, Below w.heap.size w W → Calls Tryd.prog 27 #[P4 b0 b1 b2 b3 bn] W fun e w' => e = .returned (.tuple #[.string t4, .int .i64 x4]) ∧ Below W.heap.size W w') := fun W hW => by
    have := rsay4_calls b0 b1 b2 b3 bn W f0 f1 f2 f3 fn (tabs_on tb.1 hW)
    rw [hs4] at this
    exact this
  have HS3 : Hid (∀ W, Below w.heap.size w W → Calls Tryd.prog 28 #[P6 Q qn] W fun e w' => e = .returned (.tuple #[.string t6, .int .i64 x6]) ∧ Below W.heap.size W w') := fun W hW => by
    have := say6_calls Q qn fQ lQ W fq (tabs_on tb.1 hW) (Tz.on tb.2 hW)
    rw [hs6] at this
    exact this
  have HS4 : Hid (∀ W, Below w.heap.size w W → Calls Tryd.prog 29 #[P6 Q qn] W fun e w' => e = .returned (.tuple #[.string t6, .int .i64 x6]) ∧ Below W.heap.size W w') := fun W hW => by
    have := rsay6_calls Q qn fQ lQ W fq (tabs_on tb.1 hW) (Tz.on tb.2 hW)
    rw [hs6] at this
    exact this
  have HAW : Hid (∀ W, Below w.heap.size w W → Calls Tryd.prog 17 #[] W fun e w' => e = .returned (.bool true) ∧ Below W.heap.size W w') := fun W hW => Awake.on tb W hW
  clear g1 g2 g3 g4 tb hs4 hs6
  obtain ⟨W0, hW0⟩ : ∃ W0, w.alloc (.cells [.int .u8 b0, .int .u8 b1, .int .u8 b2, .int .u8 b3, .int .i64 bn].toArray 38) = W0 := ⟨_, rfl⟩
  obtain ⟨W1, hW1⟩ : ∃ W1, W0.alloc (.cells (cp6 Q qn).toArray 40) = W1 := ⟨_, rfl⟩
  have q0 := blk_new w (.cells [.int .u8 b0, .int .u8 b1, .int .u8 b2, .int .u8 b3, .int .i64 bn].toArray 38)
  have hB0 := (Below.refl w.heap.size w).alloc (Nat.le_refl _) (.cells [.int .u8 b0, .int .u8 b1, .int .u8 b2, .int .u8 b3, .int .i64 bn].toArray 38)
  rw [hW0] at q0 hB0
  have q1 := blk_new W0 (.cells (cp6 Q qn).toArray 40)
  have hB1 := (Below.refl W0.heap.size W0).alloc (Nat.le_refl _) (.cells (cp6 Q qn).toArray 40)
  have q01 := blk_alloc q0 (.cells (cp6 Q qn).toArray 40)
  rw [hW1] at q1 hB1 q01
  have hX1 := hB0.trans (hB1.mono hB0.size)
  have HLP : Hid (∀ W, Below W1.heap.size W1 W → (Instr.loadAt 38 (.pointer (some ⟨w.heap.size, 0, none⟩))).run Tryd.prog W = .ok (P4 b0 b1 b2 b3 bn) W) := fun W hW => agg_load (vs := [.int .u8 b0, .int .u8 b1, .int .u8 b2, .int .u8 b3, .int .i64 bn]) Tryd.isAgg38 Tryd.sizeOf38 rfl (CellsAt.of_blk (blk_on q01 hW))
  have HLQ : Hid (∀ W, Below W1.heap.size W1 W → (Instr.loadAt 40 (.pointer (some ⟨W0.heap.size, 0, none⟩))).run Tryd.prog W = .ok (P6 Q qn) W) := fun W hW => loadP6 lQ (CellsAt.pfx lQ (blk_on q1 hW)).1
  have HX1 : Hid _ := hX1
  have hy0 : Below W1.heap.size W1 W1 := Below.refl _ _
  clear q0 hB0 q1 hB1 q01 hX1
  go_enter Tryd.func6, Tryd.ntmps6
  go_wp2_with fail
  refine Calls.mono (H1.out _) ?_
  rintro _ w2 ⟨rfl, hb2⟩
  have hy2 := hy0.trans (hb2.mono hy0.size)
  obtain ⟨w3, st3, k3, hb3⟩ := box_new (ty := 38) (n := 5) Tryd.sizeOf38 w2 [.int .u8 0, .int .u8 0, .int .u8 0, .int .u8 0, .int .i64 0] rfl (cp4 L n4) (cp4_length _ _ lL) (cp4_one _ _)
  have hy3 := hy2.trans (hb3.mono hy2.size)
  have S3 : Hid _ := st3
  clear H1 hb2 st3 hb3 hy0
  go_wp2_with ((with_reducible show wpList _ _ _ ({ dst := _, op := Op.store 38 (Operand.tmp 7) (Operand.tmp 26), type := _, pos := _, after := _, guard := _ } :: _) _ _); refine armS (.tmp 7) (.tmp 26) 38 rfl rfl rfl rfl S3.out ?_)
  refine Calls.mono (H2.out _) ?_
  rintro _ w4 ⟨rfl, hb4⟩
  have hy4 := hy3.trans (hb4.mono hy3.size)
  have k34 := blk_on k3 hb4
  obtain ⟨w5, st5, k5, hb5⟩ := box_new (ty := 38) (n := 5) Tryd.sizeOf38 w4 [.int .u8 0, .int .u8 0, .int .u8 0, .int .u8 0, .int .i64 0] rfl (cp4 L n4) (cp4_length _ _ lL) (cp4_one _ _)
  have k35 := blk_on k34 hb5
  have hy5 := hy4.trans (hb5.mono hy4.size)
  have S5 : Hid _ := st5
  clear H2 hb4 st5 hb5 hy2 hy3 k3 k34 S3
  go_wp2_with ((with_reducible show wpList _ _ _ ({ dst := _, op := Op.store 38 (Operand.tmp 10) (Operand.tmp 32), type := _, pos := _, after := _, guard := _ } :: _) _ _); refine armS (.tmp 10) (.tmp 32) 38 rfl rfl rfl rfl S5.out ?_)
  refine Calls.mono (H3.out _) ?_
  rintro _ w6 ⟨rfl, hb6⟩
  have hy6 := hy5.trans (hb6.mono hy5.size)
  have k36 := blk_on k35 hb6
  have k56 := blk_on k5 hb6
  obtain ⟨w7, st7, k7, hb7⟩ := box_new (ty := 40) (n := 17) Tryd.sizeOf40 w6 [.int .u8 0, .int .u8 0, .int .u8 0, .int .u8 0, .int .u8 0, .int .u8 0, .int .u8 0, .int .u8 0, .int .u8 0, .int .u8 0, .int .u8 0, .int .u8 0, .int .u8 0, .int .u8 0, .int .u8 0, .int .u8 0, .int .i64 0] rfl (cp6 M n6) (cp6_length _ _ lM) (cp6_one _ _)
  have k37 := blk_on k36 hb7
  have k57 := blk_on k56 hb7
  have hy7 := hy6.trans (hb7.mono hy6.size)
  have S7 : Hid _ := st7
  clear H3 hb6 st7 hb7 hy4 hy5 k35 k5 k36 k56 S5
  go_wp2_with ((with_reducible show wpList _ _ _ ({ dst := _, op := Op.store 40 (Operand.tmp 13) (Operand.tmp 38), type := _, pos := _, after := _, guard := _ } :: _) _ _); refine armS (.tmp 13) (.tmp 38) 40 rfl rfl rfl rfl S7.out ?_)
  refine Calls.mono (H4.out _) ?_
  rintro _ w8 ⟨rfl, hb8⟩
  have hy8 := hy7.trans (hb8.mono hy7.size)
  have k38 := blk_on k37 hb8
  have k58 := blk_on k57 hb8
  have k78 := blk_on k7 hb8
  obtain ⟨w9, st9, k9, hb9⟩ := box_new (ty := 40) (n := 17) Tryd.sizeOf40 w8 [.int .u8 0, .int .u8 0, .int .u8 0, .int .u8 0, .int .u8 0, .int .u8 0, .int .u8 0, .int .u8 0, .int .u8 0, .int .u8 0, .int .u8 0, .int .u8 0, .int .u8 0, .int .u8 0, .int .u8 0, .int .u8 0, .int .i64 0] rfl (cp6 M n6) (cp6_length _ _ lM) (cp6_one _ _)
  have k39 := blk_on k38 hb9
  have k59 := blk_on k58 hb9
  have k79 := blk_on k78 hb9
  have hy9 := hy8.trans (hb9.mono hy8.size)
  have S9 : Hid _ := st9
  have L3 : Hid _ := agg_load (t := 38) Tryd.isAgg38 Tryd.sizeOf38 (vs := cp4 L n4) (cp4_length L n4 lL) (CellsAt.of_blk k39)
  have L5 : Hid _ := agg_load (t := 38) Tryd.isAgg38 Tryd.sizeOf38 (vs := cp4 L n4) (cp4_length L n4 lL) (CellsAt.of_blk k59)
  have L7 : Hid _ := loadP6 lM (CellsAt.pfx lM k79).1
  have L9 : Hid _ := loadP6 lM (CellsAt.pfx lM k9).1
  have N4 : Hid _ := neqP4L L n4 fL lL w9
  have N6 : Hid _ := neqP6L M n6 fM lM w9
  have d1 : (m4 != m4) = false := by simp
  have d2 : (e4 != e4) = false := by simp
  have d3 : (m6 != m6) = false := by simp
  have d4 : (e6 != e6) = false := by simp
  have hLP := HLP.out w9 hy9
  have LP : Hid _ := hLP
  clear H4 hb8 st9 hb9 hy6 hy7 hy8 k37 k57 k7 k38 k58 k78 k39 k59 k79 k9 S7 hLP
  go_wp2_with first
    | ((with_reducible show wpList _ _ _ ({ dst := _, op := Op.store 40 (Operand.tmp 16) (Operand.tmp 44), type := _, pos := _, after := _, guard := _ } :: _) _ _); refine armS (.tmp 16) (.tmp 44) 40 rfl rfl rfl rfl S9.out ?_)
    | ((with_reducible show wpList _ _ _ ({ dst := _, op := Op.load 38 (Operand.tmp 7), type := _, pos := _, after := _, guard := _ } :: _) _ _); refine armLF (.tmp 7) 38 rfl rfl rfl L3.out ?_)
    | ((with_reducible show wpList _ _ _ ({ dst := _, op := Op.load 38 (Operand.tmp 10), type := _, pos := _, after := _, guard := _ } :: _) _ _); refine armLF (.tmp 10) 38 rfl rfl rfl L5.out ?_)
    | ((with_reducible show wpList _ _ _ ({ dst := _, op := Op.binOp BinOp.neq 38 (Operand.tmp 47) (Operand.tmp 48) 38, type := _, pos := _, after := _, guard := _ } :: _) _ _); refine arm_bin rfl .neq 38 _ (.tmp 47) (.tmp 48) rfl rfl rfl (gdP4L _ _ _ _ _ _) N4.out ?_)
    | ((with_reducible show wpList _ _ _ ({ dst := _, op := Op.load 40 (Operand.tmp 13), type := _, pos := _, after := _, guard := _ } :: _) _ _); refine armLF (.tmp 13) 40 rfl rfl rfl L7.out ?_)
    | ((with_reducible show wpList _ _ _ ({ dst := _, op := Op.load 40 (Operand.tmp 16), type := _, pos := _, after := _, guard := _ } :: _) _ _); refine armLF (.tmp 16) 40 rfl rfl rfl L9.out ?_)
    | ((with_reducible show wpList _ _ _ ({ dst := _, op := Op.binOp BinOp.neq 40 (Operand.tmp 61) (Operand.tmp 62) 40, type := _, pos := _, after := _, guard := _ } :: _) _ _); refine arm_bin rfl .neq 40 _ (.tmp 61) (.tmp 62) rfl rfl rfl (gdP6 _ _ _ _ _ _) N6.out ?_)
    | ((with_reducible show wpList _ _ _ ({ dst := _, op := Op.load 38 (Operand.tmp 4), type := _, pos := _, after := _, guard := _ } :: _) _ _); refine armLF (.tmp 4) 38 rfl rfl rfl LP.out ?_)
  refine Calls.mono (HS1.out _ (HX1.out.trans (hy9.mono HX1.out.size))) ?_
  rintro _ v1 ⟨rfl, hc1⟩
  have hz1 := hy9.trans (hc1.mono hy9.size)
  have LP1 : Hid _ := HLP.out v1 hz1
  clear hc1 L3 L5 L7 L9 N4 N6 LP S9
  go_wp2_with (((with_reducible show wpList _ _ _ ({ dst := _, op := Op.load 38 (Operand.tmp 4), type := _, pos := _, after := _, guard := _ } :: _) _ _); refine armLF (.tmp 4) 38 rfl rfl rfl LP1.out ?_))
  refine Calls.mono (HS2.out _ (HX1.out.trans (hz1.mono HX1.out.size))) ?_
  rintro _ v2 ⟨rfl, hc2⟩
  have hz2 := hz1.trans (hc2.mono hz1.size)
  have LQ2 : Hid _ := HLQ.out v2 hz2
  clear hc2 LP1 hy9
  go_wp2_with (((with_reducible show wpList _ _ _ ({ dst := _, op := Op.load 40 (Operand.tmp 5), type := _, pos := _, after := _, guard := _ } :: _) _ _); refine armLF (.tmp 5) 40 rfl rfl rfl LQ2.out ?_))
  refine Calls.mono (HS3.out _ (HX1.out.trans (hz2.mono HX1.out.size))) ?_
  rintro _ v3 ⟨rfl, hc3⟩
  have hz3 := hz2.trans (hc3.mono hz2.size)
  have LQ3 : Hid _ := HLQ.out v3 hz3
  clear hc3 LQ2 hz1
  go_wp2_with (((with_reducible show wpList _ _ _ ({ dst := _, op := Op.load 40 (Operand.tmp 5), type := _, pos := _, after := _, guard := _ } :: _) _ _); refine armLF (.tmp 5) 40 rfl rfl rfl LQ3.out ?_))
  refine Calls.mono (HS4.out _ (HX1.out.trans (hz3.mono HX1.out.size))) ?_
  rintro _ v4 ⟨rfl, hc4⟩
  have hz4 := hz3.trans (hc4.mono hz3.size)
  clear hc4 LQ3 hz2
  have d5 : (x4 == x4) = true := beq_self_eq_true x4
  have d6 : (x6 == x6) = true := beq_self_eq_true x6
  go_wp2_with fail
  refine Calls.mono (HAW.out _ (HX1.out.trans (hz4.mono HX1.out.size))) ?_
  rintro _ v5 ⟨rfl, hc5⟩
  have HBE : Hid (Below w.heap.size w v5) := HX1.out.trans ((hz4.trans (hc5.mono hz4.size)).mono HX1.out.size)
  clear hc5 hz3 hz4
  go_wp2
  go_ret
  exact ⟨rfl, HBE.out⟩

set_option maxRecDepth 100000 in
theorem addrPrefixes_open {H : Type} {enc : TypeId × Value → H} {W : World} {base : Nat} (tb : Tabs W ∧ Tz W) (v0 v1 v2 : Value) {d0 d1 d2 : DataW H} {p0 p1 p2 : List MemPlace}
    (o0 : Value.okWide Tryd.prog W .any base 9 v0) (h0 : DataW.Trod enc Tryd.prog W 0 (fun _ => true) true 9 v0 d0 p0) (z0 : ∀ k ∈ d0.weights Tryd.prog 9, k ≤ reachBytes)
    (o1 : Value.okWide Tryd.prog W .any base 38 v1) (h1 : DataW.Trod enc Tryd.prog W 0 (fun _ => true) true 38 v1 d1 p1) (z1 : ∀ k ∈ d1.weights Tryd.prog 38, k ≤ reachBytes)
    (o2 : Value.okWide Tryd.prog W .any base 40 v2) (h2 : DataW.Trod enc Tryd.prog W 0 (fun _ => true) true 40 v2 d2 p2) (z2 : ∀ k ∈ d2.weights Tryd.prog 40, k ≤ reachBytes) :
    Calls Tryd.prog 6 #[v0, v1, v2] W fun e w' => e = .returned (.bool true) ∧ Below W.heap.size W w' := by
  obtain ⟨s, rfl, hs⟩ := open_text o0 h0 z0
  obtain ⟨b0, b1, b2, b3, n, rfl, f0, f1, f2, f3, fn⟩ := open_prefix4 h1
  obtain ⟨Q, qn, rfl, lQ, fQ, fq⟩ := open_prefix6 h2
  exact addrPrefixes_walk s hs b0 b1 b2 b3 n f0 f1 f2 f3 (bounds_i64 fn) Q qn fQ lQ (bounds_i64 fq) W tb
end Go.Proofs.YtlpbffcijhgelaaDoor
