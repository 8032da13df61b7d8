/-
  Rows that are appended to and what stays; the document's put and Pseudo.
-/
import Derived.Test.YtnlaomjhnndblaaSg6
namespace Go.Proofs.Ytnlaomjhnndblaa
open Go Go.RowKit Go.Shelf
set_option linter.unusedVariables false
set_option linter.unusedSimpArgs false

/-- From W to W' the row v has become v': no other old block is turned. -/
structure Steps (v v' : Value) (W W' : World) : Prop where
  grown : W.grownBy W' v.ownBlock
  own : v'.ownBlock = v.ownBlock ∨ ∀ k, v'.ownBlock = some k → W.heap.size ≤ k
theorem Steps.refl (v : Value) (W : World) : Steps v v W W := ⟨⟨rfl, rfl, rfl, Nat.le_refl _, fun _ _ _ => rfl⟩, .inl rfl⟩
theorem Steps.trans {v v' v'' : Value} {A B C : World} (h : Steps v v' A B) (g : Steps v' v'' B C) : Steps v v'' A C := by
  obtain ⟨⟨h1, h2, h3, h4, h5⟩, h6⟩ := h
  obtain ⟨⟨g1, g2, g3, g4, g5⟩, g6⟩ := g
  refine ⟨⟨g1.trans h1, g2.trans h2, g3.trans h3, Nat.le_trans h4 g4, fun k hk hne => ?_⟩, ?_⟩
  · refine (g5 k (by omega) (fun e => ?_)).trans (h5 k hk hne)
    rcases h6 with h6 | h6
    · rw [h6] at e; exact hne e
    · have := h6 k e.symm; omega
  · rcases g6 with g6 | g6
    · rw [g6]; exact h6
    · exact .inr (fun k hk => Nat.le_trans h4 (g6 k hk))
theorem Steps.of_below {v : Value} {A B : World} (h : Below A.heap.size A B) : Steps v v A B := ⟨⟨h.os, h.tape, h.output, h.size, fun k hk _ => h.block k hk⟩, .inl rfl⟩
theorem Steps.keep {v v' : Value} {W W' : World} {u : Value} {zs : List Int} (h : Steps v v' W W') (hu : BytesAt W.heap.size W u zs) (hne : ∀ b off n k, u = .slice (some ⟨b, off, none⟩) n k → v.ownBlock ≠ some b) : BytesAt W'.heap.size W' u zs := by
  obtain ⟨q1, q2, a, c, rfl, q6⟩ := hu
  refine ⟨q1, q2, a, c, rfl, q6.imp id ?_⟩
  rintro ⟨b, off, rfl, hl, hc⟩
  have hb := h.grown.block b hl (fun e => hne b off _ _ rfl e.symm)
  refine ⟨b, off, rfl, Nat.lt_of_lt_of_le hl h.grown.size, fun j hj => ?_⟩
  have := hc j hj
  simp only [World.cell?] at this ⊢
  rw [hb]
  exact this

theorem own_bytes_more2 {w w0 : World} {base n : Nat} {v : Value} {xs : List Value} (hown : w.ownsRow base 5 1 v n xs) (hbase : base ≤ w.heap.size) {a : Option Addr} {m c : Nat} {zs : List Int} (hb : BytesAt w0.heap.size w (.slice a m c) zs) (hn : n + m ≤ 1000000) (ty : TypeId) :
    ∃ v' w', (Builtin.append_ #[29, 29] ty #[v, .slice a m c]).run Try.prog w = .ok v' w' ∧ w'.ownsRow base 5 1 v' (n + m) (xs ++ bytesV zs) ∧ Steps v v' w w' := by
  obtain ⟨_, _, a', c', e, hz⟩ := hb
  cases e
  have hnone : a = none → zs.length = 0 := fun e => by
    rcases hz with hz | ⟨b, off, hz, _⟩
    · exact hz
    · rw [e] at hz; cases hz
  obtain ⟨v', w', h1, h2, h3, h4⟩ := own_append elem_u8 (c := c) hown a (bytesV zs) (bytesV_length zs) hnone (fun x hx j u hj => by
      rcases hz with hz | ⟨b, off, hz, _, hc⟩
      · have := (List.getElem?_eq_some_iff.1 hj).1; rw [bytesV_length] at this; omega
      · rw [hx] at hz
        cases hz
        have hjl := (List.getElem?_eq_some_iff.1 hj).1
        rw [bytesV_length] at hjl
        rw [Go.WideShapes.add_plain, hc j hjl]
        rw [bytesV, List.getElem?_map] at hj
        obtain ⟨z, hz, rfl⟩ := Option.map_eq_some_iff.1 hj
        rw [hz]; rfl) (bytesV_one zs) (by unfold maxLen; omega) (by omega) hbase ty
  exact ⟨v', w', h1, h2, h3, h4⟩
theorem ob_app2 {base : Nat} {w wx : World} {v u : Value} {zs ys : List Int} (h : OB base w wx v zs) (hs : base ≤ wx.heap.size) (hb : BytesAt wx.heap.size wx u ys) (hl : zs.length + ys.length ≤ 1000000) (ty : TypeId) :
    ∃ v' wy, (Builtin.append_ #[29, 29] ty #[v, u]).run Try.prog wx = .ok v' wy ∧ OB base w wy v' (zs ++ ys) ∧ base ≤ wy.heap.size ∧ Steps v v' wx wy := by
  obtain ⟨a, cap, rfl, _⟩ := hb.val
  obtain ⟨v', wy, hrun, hown, hst⟩ := own_bytes_more2 (w0 := wx) h.own hs hb hl ty
  have hB : Below base wx wy := (Below.refl _ wx).grown hst.grown hs (fun j hj => (h.own.lt j hj).1)
  refine ⟨v', wy, hrun, ⟨?_, h.bel.trans hB⟩, Nat.le_trans hs hB.size, hst⟩
  rw [List.length_append]
  have e : bytesV (zs ++ ys) = bytesV zs ++ bytesV ys := by simp [bytesV]
  rw [e]
  exact hown
theorem ob_lit2 {base : Nat} {w wx : World} {v : Value} {zs : List Int} (h : OB base w wx v zs) (hs : base ≤ wx.heap.size) (ys : List Int) (us : Array Value) (hu : us = (ys.map (fun z => Value.int .u8 z)).toArray) (hf : Fit ys) (hl : zs.length + ys.length ≤ 1000000) (n : Nat) (hn : n = ys.length) (ty : TypeId) :
    ∃ v' wy, (Builtin.append_ #[29, 29] ty #[v, .slice (some ⟨wx.heap.size, 0, none⟩) n n]).run Try.prog (wx.alloc (.cells us 5)) = .ok v' wy ∧ OB base w wy v' (zs ++ ys) ∧ base ≤ wy.heap.size ∧ Steps v v' wx wy := by
  have hb := (Below.refl wx.heap.size wx).alloc (Nat.le_refl _) (.cells us 5)
  obtain ⟨v', wy, h1, h2, h3, h4⟩ := ob_app2 (h.below hs hb) (Nat.le_trans hs hb.size) (bytes_new wx 5 ys us n n (bytes_lit ys us hu) hn (by omega) hf) hl ty
  exact ⟨v', wy, h1, h2, h3, (Steps.of_below hb).trans h4⟩

/-- A number as so many bytes. -/
def putB (x : Int) : Nat → List Int
  | 0 => []
  | n + 1 => x / (256 ^ n : Nat) % 256 :: putB x n
theorem putB_length (x : Int) : ∀ n, (putB x n).length = n
  | 0 => rfl
  | n + 1 => by simp [putB, putB_length x n]
theorem putB_two {x : Int} (h : 0 ≤ x ∧ x ≤ 65535) : putB x 2 = w2 x := by
  simp [putB, w2]
  omega

set_option maxHeartbeats 1000000 in
set_option maxRecDepth 100000 in
theorem put_calls {base : Nat} {w W : World} {v : Value} {zs : List Int} (h : OB base w W v zs) (hs : base ≤ W.heap.size) (x : Int) (hx : 0 ≤ x ∧ x ≤ 4294967295) (n : Nat) (hn : n ≤ 4) (hl : zs.length ≤ 100000) :
    Calls Try.prog 43 #[v, .int .u64 x, .int .i64 n] W fun e w' => ∃ v', e = .returned v' ∧ (OB base w w' v' (zs ++ putB x n) ∧ base ≤ w'.heap.size ∧ Steps v v' W w') := by
  go_enter Try.func43, Try.ntmps43
  go_wp2
  go_loopw [0, 7] (fun u i wr => ∃ (r : Nat) (cur : List Int), r ≤ 4 ∧ i = .int .i64 ((r : Int) - 1) ∧ OB base w wr u cur ∧ base ≤ wr.heap.size ∧ Steps v u W wr ∧ cur.length ≤ 100004 - r ∧ cur ++ putB x r = zs ++ putB x n) (fun _ i _ => (intOf i + 1).toNat)
  case atStart => exact ⟨n, zs, hn, rfl, h, hs, Steps.refl _ _, by omega, rfl⟩
  case round =>
    obtain ⟨r, cur, hr, rfl, hO, hsz, hst, hcl, heq⟩ := hrel
    have HST : Hid _ := hst
    have HEQ : Hid _ := heq
    clear h hst heq
    have go1 : ∀ (r : Nat) (y : Int), x / (256 ^ r : Nat) % 256 = y → ∃ v1 w1, (Builtin.append_ #[29, 29] 29 #[u0, .slice (some ⟨wr.heap.size, 0, none⟩) 1 1]).run Try.prog (wr.alloc (.cells #[.int .u8 y] 5)) = .ok v1 w1 ∧ OB base w w1 v1 (cur ++ [y]) ∧ base ≤ w1.heap.size ∧ Steps u0 v1 wr w1 := fun r y hy => ob_lit2 hO hsz [y] _ rfl (fun z hz => by simp at hz; subst hz; subst hy; omega) (by simp; omega) 1 rfl 29
    rcases (by omega : r = 0 ∨ r = 1 ∨ r = 2 ∨ r = 3 ∨ r = 4) with rfl | rfl | rfl | rfl | rfl
    · have hc : cur = zs ++ putB x n := by have := HEQ.out; simpa [putB] using this
      subst hc
      have HO : Hid _ := hO
      clear go1 hO HEQ
      go_wp2
      go_ret
      exact ⟨_, rfl, HO.out, hsz, HST.out⟩
    · obtain ⟨v1, w1, hr1, h1, hs1, hst1⟩ := go1 0 _ rfl
      have e0 : putB x 1 = x / (256 ^ 0 : Nat) % 256 :: putB x 0 := rfl
      have HF : Hid ((cur ++ [x / (256 ^ 0 : Nat) % 256]) ++ putB x 0 = zs ++ putB x n) := by
        have := HEQ.out
        rw [e0] at this
        show (cur ++ [x / (256 ^ 0 : Nat) % 256]) ++ putB x 0 = zs ++ putB x n
        rw [← this]
        simp
      have HL : Hid ((cur ++ [x / (256 ^ 0 : Nat) % 256]).length ≤ 100004 - 0) := by
        show (cur ++ [x / (256 ^ 0 : Nat) % 256]).length ≤ 100004 - 0
        simp
        omega
      have e2 : ((256 ^ 0 : Nat) : Int) = 1 := rfl
      rw [e2, Int.ediv_one] at hr1
      have HR : Hid _ := hr1
      have H1 : Hid _ := h1
      have HS1 : Hid _ := Steps.trans HST.out hst1
      clear hr1 h1 hst1 go1 e0 e2 hO
      go_wp2_with (at_builtin; refine wpList_append_run rfl _ _ _ _ rfl rfl rfl HR.out ?_)
      exact ⟨⟨0, _, by decide, rfl, H1.out, hs1, HS1.out, HL.out, HF.out⟩, by simp [intOf]⟩
    · obtain ⟨v1, w1, hr1, h1, hs1, hst1⟩ := go1 1 _ rfl
      have e0 : putB x 2 = x / (256 ^ 1 : Nat) % 256 :: putB x 1 := rfl
      have HF : Hid ((cur ++ [x / (256 ^ 1 : Nat) % 256]) ++ putB x 1 = zs ++ putB x n) := by
        have := HEQ.out
        rw [e0] at this
        show (cur ++ [x / (256 ^ 1 : Nat) % 256]) ++ putB x 1 = zs ++ putB x n
        rw [← this]
        simp
      have HL : Hid ((cur ++ [x / (256 ^ 1 : Nat) % 256]).length ≤ 100004 - 1) := by
        show (cur ++ [x / (256 ^ 1 : Nat) % 256]).length ≤ 100004 - 1
        simp
        omega
      have e2 : ((256 ^ 1 : Nat) : Int) = 256 := rfl
      rw [e2] at hr1
      have HR : Hid _ := hr1
      have H1 : Hid _ := h1
      have HS1 : Hid _ := Steps.trans HST.out hst1
      clear hr1 h1 hst1 go1 e0 e2 hO
      go_wp2_with (at_builtin; refine wpList_append_run rfl _ _ _ _ rfl rfl rfl HR.out ?_)
      exact ⟨⟨1, _, by decide, rfl, H1.out, hs1, HS1.out, HL.out, HF.out⟩, by simp [intOf]⟩
    · obtain ⟨v1, w1, hr1, h1, hs1, hst1⟩ := go1 2 _ rfl
      have e0 : putB x 3 = x / (256 ^ 2 : Nat) % 256 :: putB x 2 := rfl
      have HF : Hid ((cur ++ [x / (256 ^ 2 : Nat) % 256]) ++ putB x 2 = zs ++ putB x n) := by
        have := HEQ.out
        rw [e0] at this
        show (cur ++ [x / (256 ^ 2 : Nat) % 256]) ++ putB x 2 = zs ++ putB x n
        rw [← this]
        simp
      have HL : Hid ((cur ++ [x / (256 ^ 2 : Nat) % 256]).length ≤ 100004 - 2) := by
        show (cur ++ [x / (256 ^ 2 : Nat) % 256]).length ≤ 100004 - 2
        simp
        omega
      have e2 : ((256 ^ 2 : Nat) : Int) = 65536 := rfl
      rw [e2] at hr1
      have HR : Hid _ := hr1
      have H1 : Hid _ := h1
      have HS1 : Hid _ := Steps.trans HST.out hst1
      clear hr1 h1 hst1 go1 e0 e2 hO
      go_wp2_with (at_builtin; refine wpList_append_run rfl _ _ _ _ rfl rfl rfl HR.out ?_)
      exact ⟨⟨2, _, by decide, rfl, H1.out, hs1, HS1.out, HL.out, HF.out⟩, by simp [intOf]⟩
    · obtain ⟨v1, w1, hr1, h1, hs1, hst1⟩ := go1 3 _ rfl
      have e0 : putB x 4 = x / (256 ^ 3 : Nat) % 256 :: putB x 3 := rfl
      have HF : Hid ((cur ++ [x / (256 ^ 3 : Nat) % 256]) ++ putB x 3 = zs ++ putB x n) := by
        have := HEQ.out
        rw [e0] at this
        show (cur ++ [x / (256 ^ 3 : Nat) % 256]) ++ putB x 3 = zs ++ putB x n
        rw [← this]
        simp
      have HL : Hid ((cur ++ [x / (256 ^ 3 : Nat) % 256]).length ≤ 100004 - 3) := by
        show (cur ++ [x / (256 ^ 3 : Nat) % 256]).length ≤ 100004 - 3
        simp
        omega
      have e2 : ((256 ^ 3 : Nat) : Int) = 16777216 := rfl
      have e3 : x / 16777216 % 256 = x / 16777216 := by omega
      rw [e2, e3] at hr1
      clear e3
      have HR : Hid _ := hr1
      have H1 : Hid _ := h1
      have HS1 : Hid _ := Steps.trans HST.out hst1
      clear hr1 h1 hst1 go1 e0 e2 hO
      go_wp2_with (at_builtin; refine wpList_append_run rfl _ _ _ _ rfl rfl rfl HR.out ?_)
      exact ⟨⟨3, _, by decide, rfl, H1.out, hs1, HS1.out, HL.out, HF.out⟩, by simp [intOf]⟩

/-- A number of so many bytes at a place. -/
def getB (zs : List Int) (at' : Nat) : Nat → Int
  | 0 => 0
  | n + 1 => getB zs at' n * 256 + gz zs (at' + n)
theorem getB_range {zs : List Int} (h : Fit zs) (at' : Nat) : ∀ n, 0 ≤ getB zs at' n ∧ getB zs at' n < (256 ^ n : Nat)
  | 0 => by simp [getB]
  | n + 1 => by
    have h1 := getB_range h at' n
    have h2 := h.gz (at' + n)
    have e : ((256 ^ (n + 1) : Nat) : Int) = (256 ^ n : Nat) * 256 := by rw [Nat.pow_succ]; simp
    rw [e]
    simp only [getB]
    omega
theorem or_byte64 (a b : Int) (ha : 0 ≤ a ∧ a < 72057594037927936) (hb : 0 ≤ b ∧ b < 256) : bits .or .u64 (a * 256) b = a * 256 + b := by
  obtain ⟨x, rfl⟩ := Int.eq_ofNat_of_zero_le ha.1
  obtain ⟨y, rfl⟩ := Int.eq_ofNat_of_zero_le hb.1
  rw [show ((x : Int) * 256) = ((x * 256 : Nat) : Int) by omega, u64_or_nat (x * 256) y (by omega) (by omega), Nat.or_comm, show x * 256 = 2 ^ 8 * x by omega, or_hi y x 8 (by omega)]
  omega
set_option maxHeartbeats 1000000 in
set_option maxRecDepth 100000 in
theorem get_calls (v : Value) (zs : List Int) (at' n : Nat) (w : World) (h : BytesAt w.heap.size w v zs) (hn : n ≤ 4) (ha : at' + n ≤ zs.length) :
    Calls Try.prog 51 #[v, .int .i64 at', .int .i64 n] w fun e w' => e = .returned (.int .u64 (getB zs at' n)) ∧ w' = w := by
  obtain ⟨hf, hlen, a, cap, rfl, hz⟩ := h
  have HR : Hid _ := getB_range hf at'
  go_enter Try.func51, Try.ntmps51
  go_wp2
  go_loopw [7, 8] (fun x i wr => ∃ k : Nat, k ≤ n ∧ i = .int .i64 k ∧ x = .int .u64 (getB zs at' k) ∧ wr = w) (fun _ i _ => n - (intOf i).toNat)
  case atStart => exact ⟨0, Nat.zero_le _, rfl, rfl, rfl⟩
  case round =>
    obtain ⟨k, hk, rfl, rfl, rfl⟩ := hrel
    by_cases hlt : k < n
    · rcases hz with hz | ⟨b, off, rfl, hbn, hc⟩
      · omega
      have hck := hc (at' + k) (by omega)
      have hg := hf.gz (at' + k)
      have hr := HR.out k
      have hp : ((256 ^ k : Nat) : Int) ≤ 16777216 := by
        have : 256 ^ k ≤ 256 ^ 3 := Nat.pow_le_pow_right (by decide) (by omega)
        omega
      have HS : Hid (getB zs at' (k + 1) = getB zs at' k * 256 + gz zs (at' + k)) := rfl
      have egz : zs[at' + k]?.getD 0 = gz zs (at' + k) := rfl
      rw [egz] at hck
      clear egz hc
      generalize gz zs (at' + k) = y at *
      generalize hX : getB zs at' k = X at *
      have hX1 : 0 ≤ X ∧ X < 16777216 := by omega
      have hob := or_byte64 X y (by omega) hg
      have hm : X * 256 % 18446744073709551616 = X * 256 := by omega
      clear hr hp hX HR
      go_wp2
      exact ⟨⟨k + 1, by omega, by simp, by rw [HS.out], trivial⟩, by simp [intOf]; omega⟩
    · obtain rfl : k = n := by omega
      go_wp2
      go_ret
      exact ⟨rfl, rfl⟩

end Go.Proofs.Ytnlaomjhnndblaa
