/-
  The walk of the statement SumOrder: the sum hangs on no order of parts with an even number of bytes.
-/
import Derived.Test.YthibmoifjgpimaaFoldRef
namespace Go.Proofs.Ythibmoifjgpimaa
open Go Go.RowKit Go.Shelf

/-- The one of 0 .. 65535 that a sum in ones' complement comes to. -/
def norm (s : Int) : Int := if s = 0 then 0 else (s - 1) % 65535 + 1
theorem addW_norm (a b : Int) (ha : 0 ≤ a) (hb : 0 ≤ b ∧ b ≤ 65535) : addW (norm a) b = norm (a + b) := by
  unfold addW norm
  split <;> split <;> split <;> omega
theorem sumW_norm : ∀ (xs : List Int) (s : Int), 0 ≤ s → Words xs → sumW (norm s) xs = norm (s + xs.sum)
  | [], s, _, _ => by simp [sumW]
  | x :: xs, s, hs, hx => by
    have h1 := hx x (by simp)
    have e : sumW (norm s) (x :: xs) = sumW (addW (norm s) x) xs := rfl
    rw [e, addW_norm s x hs h1, sumW_norm xs (s + x) (by omega) (fun z hz => hx z (by simp [hz])), List.sum_cons]
    congr 1
    omega
/-- Words of the same sum have the same folded sum. -/
theorem sumW_same {xs ys : List Int} (hx : Words xs) (hy : Words ys) (h : xs.sum = ys.sum) : sumW 0 xs = sumW 0 ys := by
  have e : (0 : Int) = norm 0 := rfl
  rw [e, sumW_norm xs 0 (by decide) hx, sumW_norm ys 0 (by decide) hy, h]

def Even (ps : List (List Int)) : Prop := ∀ p ∈ ps, p.length % 2 = 0
theorem flat_sum : ∀ (ps : List (List Int)) (t : List Int), Even ps → (wordsL (ps.flatten ++ t)).sum = (ps.map (fun p => (wordsL p).sum)).sum + (wordsL t).sum
  | [], t, _ => by simp
  | p :: ps, t, h => by
    have h1 := h p (by simp)
    have ih := flat_sum ps t (fun q hq => h q (by simp [hq]))
    rw [List.flatten_cons, List.append_assoc, wordsL_append _ _ h1, List.sum_append, ih, List.map_cons, List.sum_cons]
    omega
theorem sum_back : ∀ (l : List Int), l.reverse.sum = l.sum
  | [] => rfl
  | x :: l => by
    rw [List.reverse_cons, List.sum_append, sum_back l]
    simp
    omega
theorem order_same (ps : List (List Int)) (t : List Int) (he : Even ps) (h1 : Fit (ps ++ [t]).flatten) (h2 : Fit (ps.reverse ++ [t]).flatten) :
    sumW 0 (wordsL (ps ++ [t]).flatten) = sumW 0 (wordsL (ps.reverse ++ [t]).flatten) := by
  refine sumW_same (wordsL_words h1) (wordsL_words h2) ?_
  have e1 : (ps ++ [t]).flatten = ps.flatten ++ t := by simp
  have e2 : (ps.reverse ++ [t]).flatten = ps.reverse.flatten ++ t := by simp
  rw [e1, e2, flat_sum ps t he, flat_sum ps.reverse t (fun p hp => he p (List.mem_reverse.1 hp)), List.map_reverse, sum_back]

theorem own_base {w : World} {base base' n : Nat} {e : TypeId} {v : Value} {xs : List Value} (h : w.ownsRow base e 1 v n xs) (hb : base' ≤ base) : w.ownsRow base' e 1 v n xs := by
  refine ⟨h.1, h.2.imp id ?_⟩
  rintro ⟨g, cap, cur, hv, hg, hr⟩
  exact ⟨g, cap, cur, hv, Nat.le_trans hb hg, hr⟩
theorem own_lit_sl (w : World) (u : Value) : (w.alloc (.cells #[u] 32)).ownsRow w.heap.size 32 1 (.slice (some ⟨w.heap.size, 0, none⟩) 1 1) 1 [u] :=
  ⟨rfl, .inr ⟨w.heap.size, 1, _, rfl, Nat.le_refl _, World.alloc_heap_new w _, Nat.le_refl _, by decide, rfl, rfl⟩⟩

/-- 'append([][]byte{u}, back...)': a new row. -/
theorem own_front {w : World} {base n : Nat} {v u : Value} {xs : List Value} (hxs : ∀ x ∈ xs, x.oneCell' = true) (hown : w.ownsRow base 32 1 v n xs) (hn : n ≤ 1000) (ty : TypeId) :
    ∃ v' w', (Builtin.append_ #[22, 22] ty #[.slice (some ⟨w.heap.size, 0, none⟩) 1 1, v]).run Try.prog (w.alloc (.cells #[u] 32)) = .ok v' w' ∧ w'.ownsRow w.heap.size 32 1 v' (n + 1) (u :: xs) ∧ Below w.heap.size w w' := by
  obtain ⟨a, cap, rfl, hl, hz⟩ := own_form (hown.alloc (.cells #[u] 32))
  obtain ⟨v', w', h1, h2, h3, _⟩ := own_append elem_sl (c := cap) (m := n) (own_lit_sl w u) a xs hl (fun e => by
      rcases hz with hz | ⟨g, hg, _⟩
      · exact hz
      · rw [e] at hg; cases hg) (fun x hx j y hj => by
      rcases hz with hz | ⟨g, hg, _, _, hc⟩
      · have := (List.getElem?_eq_some_iff.1 hj).1; omega
      · rw [hx] at hg
        cases hg
        rw [Go.WideShapes.add_plain, Nat.zero_add]
        exact hc j y hj) hxs (by unfold maxLen; omega) (by omega) (by simp) ty
  refine ⟨v', w', h1, by rw [Nat.add_comm n 1]; exact h2, ?_⟩
  exact ((Below.refl _ w).alloc (Nat.le_refl _) _).grown h3 (by simp) (fun k hk => by simp [Value.ownBlock] at hk; omega)

theorem Held.slices {w : World} {us : List Value} {ps : List (List Int)} (h : Held w us ps) : ∀ x ∈ us, x.oneCell' = true := by
  intro x hx
  obtain ⟨j, hj, rfl⟩ := List.getElem_of_mem hx
  obtain ⟨_, _, a, c, e, _⟩ := (h.each j us[j] (by simp)).1
  rw [e]; rfl

theorem Held.back {w : World} {us : List Value} {ps : List (List Int)} (h : Held w us ps) : Held w us.reverse ps.reverse := by
  have hl := h.len
  refine ⟨by simp [hl], fun j u hj => ?_⟩
  have hjl := (List.getElem?_eq_some_iff.1 hj).1
  simp at hjl
  rw [List.getElem?_reverse hjl] at hj
  rw [List.getElem?_reverse (by omega), ← hl]
  exact h.each _ u hj

set_option maxHeartbeats 2000000 in
theorem sumOrder_walk (a : Option Addr) (len cap : Nat) (a1 : Option Addr) (len1 cap1 : Nat) (z1 : List Int) (w : World) (h : IsParts w a len) (h1 : IsRowB w a1 len1 cap1 z1) :
    Calls Try.prog 8 #[.slice a len cap, .slice a1 len1 cap1] w fun e w' => e = .returned (.bool true) ∧ Below w.heap.size w w' := by
  obtain ⟨p1, p2, p3⟩ := h1.bounds
  have hb1 := h1.bytes (min len1 3000) (by omega) (by omega)
  have hz1 : (z1.take (min len1 3000)).length ≤ 3000 := by simp; omega
  generalize z1.take (min len1 3000) = x1 at *
  go_enter Try.func8, Try.ntmps8
  go_wp2_with fail
  refine (few_calls a len cap w h).mono ?_
  rintro e w1 ⟨v, us, ps, rfl, hh, hn, hown, hB1⟩
  have HL : Hid (us.length = ps.length) := hh.len
  have hones := hh.slices
  obtain ⟨al, cl, rfl, _, _⟩ := own_form hown
  clear h
  go_wp2_with fail
  go_loopw [5, 6] (fun v i wr => ∃ k : Nat, k ≤ us.length ∧ i = .int .i64 k ∧ wr.ownsRow w.heap.size 32 1 v k (us.take k).reverse ∧ wr.ownsRow w.heap.size 32 1 (.slice al us.length cl) us.length us ∧ (∀ g, (Value.slice al us.length cl).ownBlock = some g → v.ownBlock ≠ some g) ∧ Even (ps.take k) ∧ Below w.heap.size w wr) (fun _ i _ => us.length - (intOf i).toNat)
  case atStart => exact ⟨0, Nat.zero_le _, rfl, World.ownsRow_nil _ _ _ _, hown, (fun g _ e => by simp [Value.ownBlock] at e), (fun p hp => by simp at hp), hB1⟩
  case round =>
    clear hown hB1
    obtain ⟨k, hk, rfl, hback, hown, hsep, hev, hB⟩ := hrel
    have hsz := hB.size
    by_cases hlt : k < us.length
    · obtain ⟨al', cl', e, _, hz⟩ := own_form hown
      cases e
      rcases hz with hz | ⟨g, rfl, _, hg, hc⟩
      · omega
      have hu : us[k]? = some us[k] := by simp [hlt]
      have hck := hc k _ hu
      have hhk := hh.each k _ hu
      have hrev : (us.take (k + 1)).reverse = us[k] :: (us.take k).reverse := by
        rw [List.take_succ_eq_append_getElem hlt]; simp
      have hpk : ps[k]? = some (ps[k]?.getD []) := by have := HL.out; rw [List.getElem?_eq_getElem (by omega)]; rfl
      obtain ⟨v', w2, hrun, hown', hB2⟩ := own_front (u := us[k]) (xs := (us.take k).reverse) (fun x hx => hones x (List.mem_of_mem_take (List.mem_reverse.1 hx))) hback (by omega) 22
      rw [← hrev] at hown'
      obtain ⟨_, _, a2, c2, e2, _⟩ := hhk.1
      rw [e2] at hck hrun
      have hq := hhk.2
      clear hc hu hrev hhk e2
      by_cases hpe : (ps[k]?.getD []).length % 2 = 0
      · have hev' : Even (ps.take (k + 1)) := by
          intro p hp
          obtain ⟨j, hj⟩ := List.getElem?_of_mem hp
          rw [List.getElem?_take] at hj
          split at hj
          · by_cases hjk : j < k
            · exact hev p (List.mem_of_getElem? (i := j) (by rw [List.getElem?_take, if_pos hjk]; exact hj))
            · obtain rfl : j = k := by omega
              rw [hpk] at hj
              cases hj
              exact hpe
          · cases hj
        have hm : (((ps[k]?.getD []).length : Int) % 2 != 0) = false := by rw [bne_eq_false_iff_eq]; omega
        clear hpe hpk
        generalize (ps[k]?.getD []).length = m at *
        have H0 : Hid _ := hrun
        clear hrun
        go_wp2_with (at_builtin; refine wpList_append_run rfl _ _ _ _ rfl rfl rfl H0.out ?_; clear H0)
        refine ⟨⟨k + 1, by omega, by simp, ?_, own_below hown hB2, ?_, hev', hB.trans (hB2.mono hsz)⟩, by simp [intOf]; omega⟩
        · exact own_base hown' hsz
        · intro g' hg' e'
          have h3 := (hown'.lt g' e').1
          have h4 := (hown.lt g' hg').2
          omega
      · have hm : (((ps[k]?.getD []).length : Int) % 2 != 0) = true := by rw [bne_iff_ne]; omega
        clear hpe hpk hrun
        generalize (ps[k]?.getD []).length = m at *
        go_wp2_with fail
        refine (alive_calls _).mono ?_
        rintro e W7 ⟨rfl, hB7⟩
        go_wp2
        go_ret
        exact ⟨rfl, hB.trans (hB7.mono hB.size)⟩
    · obtain rfl : k = us.length := by omega
      rw [List.take_length] at hback
      have hev' : Even ps := by rw [HL.out, List.take_length] at hev; exact hev
      clear hev
      have hh1 := hh.snoc hb1 hz1
      have hh2 := hh.back.snoc hb1 hz1
      obtain ⟨v1, w2, hrun1, hown1, hgrow1, _⟩ := own_one elem_sl hown hsz (by omega) (by decide) (.slice a1 (min len1 3000) cap1) rfl 22
      have hB2 := hB.grown hgrow1 hsz (fun j hj => (hown.lt j hj).1)
      have hback2 := hback.kept hgrow1 (by
        cases hbb : Value.ownBlock _ with
        | none => exact .inl rfl
        | some g => exact .inr (fun e => hsep g e.symm hbb))
      have hp1 := (hh1.later hB2).parts hown1 (by omega)
      have H1 : Hid _ := hrun1
      clear hrun1 hown1 hgrow1 hback hown hsep
      go_wp2_with fail
      refine (cut_calls a1 len1 cap1 _ p1 p2 p3).mono ?_
      rintro e wx ⟨rfl, rfl⟩
      go_wp2_with (at_builtin; refine wpList_append_run rfl _ _ _ _ rfl rfl rfl H1.out ?_; clear H1)
      obtain ⟨b1, c1, rfl, _⟩ := hp1.val
      refine (fold_calls b1 _ c1 _ w2 hp1).mono ?_
      rintro e w3 ⟨rfl, hB3⟩
      have hback3 := own_below hback2 hB3
      have hB23 := hB2.trans (hB3.mono hB2.size)
      obtain ⟨v2, w4, hrun2, hown2, hgrow2, _⟩ := own_one elem_sl hback3 hB23.size (by omega) (by decide) (.slice a1 (min len1 3000) cap1) rfl 22
      have hB4 := hB23.grown hgrow2 hB23.size (fun j hj => (hback3.lt j hj).1)
      have hp2 := (hh2.later hB4).parts hown2 (by omega)
      have hsame := order_same ps x1 hev' hp1.fit hp2.fit
      obtain ⟨b2, c2, rfl, _⟩ := hp2.val
      have hF2 := calls_hide (fold_calls b2 _ c2 _ w4 hp2)
      rw [← hsame, show (ps.reverse ++ [x1]).length = ps.length + 1 from by simp] at hF2
      have H2 : Hid _ := hrun2
      clear hrun2 hown2 hgrow2 hback3 hback2 hsame hh1 hh2 hp1 hp2
      generalize sumW 0 (wordsL (ps ++ [x1]).flatten) = t at *
      go_wp2_with fail
      refine (cut_calls a1 len1 cap1 _ p1 p2 p3).mono ?_
      rintro e wx ⟨rfl, rfl⟩
      go_wp2_with (at_builtin; refine wpList_append_run rfl _ _ _ _ rfl rfl rfl H2.out ?_; clear H2)
      refine (calls_show hF2).mono ?_
      rintro e w5 ⟨rfl, hB5⟩
      have hB6 := hB4.trans (hB5.mono hB4.size)
      go_wp2_with fail
      refine (alive_calls _).mono ?_
      rintro e W7 ⟨rfl, hB7⟩
      go_wp2
      go_ret
      exact ⟨rfl, hB6.trans (hB7.mono hB6.size)⟩

theorem open_bytes {H : Type} {enc : TypeId × Value → H} {W : World} {base : Nat} {v : Value} {d : DataW H} {p : List MemPlace} (hval : Value.okWide Try.prog W .any base 32 v)
    (h : DataW.Trod enc Try.prog W 0 (fun _ => true) true 32 v d p) : ∃ a len cap zs, v = .slice a len cap ∧ IsRowB W a len cap zs := by
  obtain ⟨a, len, cap, rfl⟩ := Go.WideShapes.okWide_slice Try.underlying32 hval
  obtain ⟨fuel, hf⟩ := h
  rcases Go.ChangeShapes.open_ints Try.underlying32 Try.underlying5 (by kernel_rfl) hf with ⟨hcs, _⟩ | ⟨x, l, c, zs, hcs, _, hl, hm, hz, _, hcell, hwz⟩
  · simp [Value.cells] at hcs
    obtain ⟨rfl, rfl, rfl⟩ := hcs
    exact ⟨_, _, _, [], rfl, .inl ⟨rfl, rfl, rfl, rfl⟩⟩
  · simp [Value.cells] at hcs
    obtain ⟨rfl, rfl, rfl⟩ := hcs
    exact ⟨_, _, _, zs, rfl, .inr ⟨_, rfl, hl, hm, by simpa using hz, hcell, hwz⟩⟩

theorem sumOrder_open {H : Type} {enc : TypeId × Value → H} {W : World} {base : Nat} (v0 v1 : Value) {d0 d1 : DataW H} {p0 p1 : List MemPlace} (o0 : Value.okWide Try.prog W .any base 22 v0)
    (h0 : DataW.Trod enc Try.prog W 0 (fun _ => true) true 22 v0 d0 p0) (o1 : Value.okWide Try.prog W .any base 32 v1) (h1 : DataW.Trod enc Try.prog W 0 (fun _ => true) true 32 v1 d1 p1) :
    Calls Try.prog 8 #[v0, v1] W fun e w' => e = .returned (.bool true) ∧ Below W.heap.size W w' := by
  obtain ⟨a, len, cap, rfl, h⟩ := open_parts o0 h0
  obtain ⟨a1, len1, cap1, zs, rfl, h'⟩ := open_bytes o1 h1
  exact sumOrder_walk a len cap a1 len1 cap1 zs W h h'

end Go.Proofs.Ythibmoifjgpimaa
