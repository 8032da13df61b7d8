/-
  The walks of Clear, of the program and of the document.
-/
import Derived.Test.YtcncjclolpfddaaFldClear
namespace Go.Proofs.Ytcncjclolpfddaa
set_option linter.unusedVariables false
set_option linter.unusedSimpArgs false
open Go Go.RowKit
attribute [local go_sem] Oper.semAt_some

theorem BytesAt.src {n₀ : Nat} {w : World} {a : Option Addr} {n cap : Nat} {zs : List Int} (h : BytesAt n₀ w (.slice a n cap) zs) : zs.length = 0 ∨ ∃ x : Addr, a = some x ∧ ∀ (j : Nat) z, zs[j]? = some z → w.cell? (x.add j) = some (.int .u8 z) := by
  obtain ⟨_, _, a', cap', e, hz⟩ := h
  cases e
  refine hz.imp id ?_
  rintro ⟨b, off, rfl, _, hc⟩
  refine ⟨_, rfl, fun j z hj => ?_⟩
  have hjl := (List.getElem?_eq_some_iff.1 hj).1
  have := hc j hjl
  rw [hj] at this
  rw [Go.WideShapes.add_plain]
  exact this

set_option maxHeartbeats 4000000 in
theorem clear_calls (a : Option Addr) (cap : Nat) (zs : List Int) (n : Int) (w : World) (h : BytesAt w.heap.size w (.slice a zs.length cap) zs) (c1 : zs.length ≤ cap) (c2 : cap ≤ maxLen) (h1 : -9223372036854775808 ≤ n ∧ n ≤ 9223372036854775807) :
    Calls Try.prog 17 #[.slice a zs.length cap, .int .i64 n] w fun e w' => ∃ r, e = .returned (.tuple #[r, .int .i64 (clrE zs n)]) ∧ BytesAt w'.heap.size w' r (clrL zs n) ∧ Below w.heap.size w w' := by
  have hl := h.len
  have hf := h.fit
  obtain ⟨_, _, _, _, ea, hz⟩ := id h
  cases ea
  cases t1 : thereB zs.length n 0
  · have e1 : clrL zs n = [] := by simp [clrL, clrOk, t1]
    have e2 : clrE zs n = 30 := by simp [clrE, clrOk, t1]
    rw [e1, e2]
    clear h hz
    go_enter Try.func17, Try.ntmps17
    go_wp2_with fail
    refine (there_calls a _ cap n 0 w hl h1 (by decide)).mono ?_
    rintro e w' ⟨rfl, rfl⟩
    rw [t1]
    go_wp2
    go_ret2
    exact ⟨_, rfl, nil_bytes _ _, Below.refl _ _⟩
  · have y1 := thereB_yes t1
    obtain ⟨m, rfl⟩ := Int.eq_ofNat_of_zero_le y1.1
    have e2 : clrE zs m = 0 := by simp [clrE, clrOk, t1]
    have e1 : clrL zs m = zeroFrom zs m := by simp [clrL, clrOk, t1]
    rw [e1, e2]
    clear e1 e2
    have hev := clear_even hf m (by omega)
    have hod := clear_odd hf m (by omega)
    obtain ⟨f, hfd⟩ : ∃ f, f = (m + 7) / 8 := ⟨_, rfl⟩
    have hroom := fun w => room_calls m w (by omega)
    rw [← hfd] at hev hod
    simp only [← hfd] at hroom
    have hf1 : f ≤ zs.length := by omega
    have hfm : m % 8 ≠ 0 → 1 ≤ f := by omega
    have hbl := baseRow_length zs f hf1
    have hfz1 : a = none → f = 0 := fun e => by
      rcases hz with h | ⟨b, o, hx, _⟩
      · omega
      · rw [e] at hx; cases hx
    obtain ⟨i, hi, hz0, hs, hby⟩ := info_parts info_u8
    have hcopy : ∀ X, Below w.heap.size w X → OwnG w.heap.size X w.heap.size (List.replicate zs.length 0) → ∃ v X2, (Builtin.copy_ #[22, 22] 3 #[.slice (some ⟨w.heap.size, 0, none⟩) zs.length zs.length, .slice a f cap]).run Try.prog X = .ok v X2 ∧ OwnG w.heap.size X2 w.heap.size (baseRow zs f) ∧ Below w.heap.size w X2 := by
      intro X hX hG
      have hsrc := ((h.later hX).take f hf1).src
      have htl : (zs.take f).length = f := by simp; omega
      obtain ⟨v, X2, hr, ho, hB⟩ := copy_own hG (zs.take f) a zs.length zs.length cap (by simp) (by omega) hsrc 3
      rw [htl] at hr ho
      exact ⟨v, X2, hr, ho, hX.trans hB⟩
    have HC : Hid _ := hcopy
    have HEV : Hid _ := hev
    have HOD : Hid _ := hod
    have HR : Hid _ := hroom
    have HFM : Hid _ := hfm
    have HBF := baseRow_fit hf f
    clear hcopy hev hod hroom h hz hfd hfm
    unfold maxLen at c2
    generalize baseRow zs f = bs at *
    generalize zeroFrom zs m = zf at *
    have key : ∀ (X2 : World) (bs' : List Int) (d : Nat), bs'.length = zs.length → FitB bs' → OwnG w.heap.size X2 w.heap.size bs' → BytesAt X2.heap.size X2 (.slice (some ⟨w.heap.size, 0, none⟩) zs.length zs.length) bs' := by
      intro X2 bs' d e1 e2 e3
      have := (e3.own (cap := zs.length) e2 (by omega)).bytes
      rwa [e1] at this
    have HK : Hid _ := key
    clear key
    have hgo : ∀ f0 a0, f0 = f → a0 = a → True := fun _ _ _ _ => trivial
    cases a with
    | none =>
      obtain rfl := hfz1 rfl
      have hm8 : m % 8 = 0 := by
        apply Decidable.byContradiction
        intro hc
        have := HFM.out hc
        omega
      have hq : (((m : Nat) : Int) % 8 != 0) = false := by simp; omega
      go_enter Try.func17, Try.ntmps17
      go_wp2_with fail
      refine (there_calls none _ cap m 0 w hl h1 (by decide)).mono ?_
      rintro e w' ⟨rfl, rfl⟩
      rw [t1]
      go_wp2_with (first
        | (at_make; refine wpList_make_full _ rfl _ _ _ rfl w'.heap.size 5 i (.int .u8 0) 1 Try.underlying22 hi hz0 hs .i64 .i64 _ _ zs.length rfl rfl rfl rfl (by rw [hby]; omega) (by unfold maxLen; omega) (Nat.le_refl _) ?_; intro X hown hgr; obtain ⟨vc, X2, hcp, hG2, hB2⟩ := HC.out X ((Below.refl _ w').grown hgr (Nat.le_refl _) (fun k hk => by cases hk)) (own_made hown); clear hown hgr)
        | (go_at_call 37; refine Calls.mono (HR.out _) ?_; rintro e w1 ⟨rfl, rfl⟩))
      go_ret2
      refine ⟨_, rfl, ?_, hB2⟩
      have hE := HEV.out hm8
      rw [← hE]
      exact HK.out X2 bs 0 hbl HBF hG2
    | some x =>
      by_cases hm8 : m % 8 = 0
      · have hq : (((m : Nat) : Int) % 8 != 0) = false := by simp; omega
        go_enter Try.func17, Try.ntmps17
        go_wp2_with fail
        refine (there_calls _ _ cap m 0 w hl h1 (by decide)).mono ?_
        rintro e w' ⟨rfl, rfl⟩
        rw [t1]
        go_wp2_with (first
          | (at_make; refine wpList_make_full _ rfl _ _ _ rfl w'.heap.size 5 i (.int .u8 0) 1 Try.underlying22 hi hz0 hs .i64 .i64 _ _ zs.length rfl rfl rfl rfl (by rw [hby]; omega) (by unfold maxLen; omega) (Nat.le_refl _) ?_; intro X hown hgr; obtain ⟨vc, X2, hcp, hG2, hB2⟩ := HC.out X ((Below.refl _ w').grown hgr (Nat.le_refl _) (fun k hk => by cases hk)) (own_made hown); clear hown hgr)
          | (go_at_call 37; refine Calls.mono (HR.out _) ?_; rintro e w1 ⟨rfl, rfl⟩))
        go_ret2
        refine ⟨_, rfl, ?_, hB2⟩
        have hE := HEV.out hm8
        rw [← hE]
        exact HK.out X2 bs 0 hbl HBF hG2
      · have hq : (((m : Nat) : Int) % 8 != 0) = true := by simp; omega
        have hf0 := HFM.out hm8
        go_enter Try.func17, Try.ntmps17
        go_wp2_with fail
        refine (there_calls _ _ cap m 0 w hl h1 (by decide)).mono ?_
        rintro e w' ⟨rfl, rfl⟩
        rw [t1]
        go_wp2_with (first
          | (at_make; refine wpList_make_full _ rfl _ _ _ rfl w'.heap.size 5 i (.int .u8 0) 1 Try.underlying22 hi hz0 hs .i64 .i64 _ _ zs.length rfl rfl rfl rfl (by rw [hby]; omega) (by unfold maxLen; omega) (Nat.le_refl _) ?_; intro X hown hgr; obtain ⟨vc, X2, hcp, hG2, hB2⟩ := HC.out X ((Below.refl _ w').grown hgr (Nat.le_refl _) (fun k hk => by cases hk)) (own_made hown); clear hown hgr)
          | (go_at_call 37; refine Calls.mono (HR.out _) ?_; rintro e w1 ⟨rfl, rfl⟩))
        obtain ⟨k, rfl⟩ : ∃ k, f = k + 1 := ⟨f - 1, by omega⟩
        have hod2 := HOD.out hm8
        rw [Nat.add_sub_cancel] at hod2
        have hcc := hG2.cell k (by omega)
        have hop := hG2.open k
        have hos := hG2.set k (by omega)
        have hfk := fit_at HBF k
        have hmk := clear_mask (bs[k]?.getD 0) (m % 8) (Nat.mod_lt _ (by decide)) hfk
        have hlt := tab_clear_lt (m % 8) (Nat.mod_lt _ (by decide)) (bs[k]?.getD 0).toNat (by omega)
        generalize bs[k]?.getD 0 = z at *
        generalize z.toNat &&& (255 - 255 / 2 ^ (m % 8)) = s at *
        have HO2 : Hid _ := hod2
        have HOS : Hid _ := hos
        clear hod2 hos hcp
        go_region
        go_wp2
        go_ret2
        refine ⟨_, rfl, ?_, (hB2.trans (below_set _ _ (Nat.le_refl _))).drew⟩
        rw [← HO2.out]
        have ho := HOS.out (s : Int)
        refine HK.out _ _ 0 (by simpa using hbl) ?_ ⟨ho.low, ho.typed, ho.cell⟩
        intro y hy
        rcases List.mem_or_eq_of_mem_set hy with hy | rfl
        · exact HBF y hy
        · omega

def clrBits (l : List Nat) (m : Nat) : Nat → List Nat
  | 0 => l
  | k + 1 => (clrBits l m k).set (m + k) 0
@[simp] theorem clrBits_length (l : List Nat) (m k : Nat) : (clrBits l m k).length = l.length := by
  induction k with
  | zero => rfl
  | succ k ih => simp [clrBits, ih]
theorem clrBits_get (l : List Nat) (m k q : Nat) (h : m + k ≤ l.length) : (clrBits l m k)[q]? = if m ≤ q ∧ q < m + k then some 0 else l[q]? := by
  induction k with
  | zero => have : ¬ (m ≤ q ∧ q < m + 0) := by omega
            simp [clrBits]; omega
  | succ k ih =>
    rw [clrBits]
    by_cases c : m + k = q
    · subst c
      rw [List.getElem?_set_self (by simp; omega), if_pos (by omega)]
    · rw [List.getElem?_set_ne c, ih (by omega)]
      by_cases d : m ≤ q ∧ q < m + k
      · rw [if_pos d, if_pos (by omega)]
      · rw [if_neg d, if_neg (by omega)]
theorem clrBits_all (l : List Nat) (m : Nat) (h : m ≤ l.length) : clrBits l m (l.length - m) = l.take m ++ List.replicate (l.length - m) 0 := by
  refine List.ext_getElem? fun q => ?_
  rw [clrBits_get _ _ _ _ (by omega)]
  by_cases c : q < m
  · rw [if_neg (by omega), List.getElem?_append_left (by simp; omega), List.getElem?_take_of_lt c]
  · rw [List.getElem?_append_right (by simp; omega), List.getElem?_replicate]
    simp only [List.length_take, show min m l.length = m by omega]
    by_cases d : q < l.length
    · rw [if_pos (by omega), if_pos (by omega)]
    · rw [if_neg (by omega), if_neg (by omega), List.getElem?_eq_none (by omega)]

set_option maxHeartbeats 2000000 in
theorem Rclear_calls (u : Value) (zs : List Int) (n : Int) (w : World) (h : BytesAt w.heap.size w u zs) (hl5 : zs.length ≤ 100000) (h1 : -9223372036854775808 ≤ n ∧ n ≤ 9223372036854775807) :
    Calls Try.prog 18 #[u, .int .i64 n] w fun e w' => ∃ r, e = .returned (.tuple #[r, .int .i64 (clrE zs n)]) ∧ BytesAt w'.heap.size w' r (clrL zs n) ∧ Below w.heap.size w w' := by
  have hl := h.len
  have hf := h.fit
  obtain ⟨_, _, a, cap, rfl, _⟩ := id h
  by_cases hn0 : n < 0
  · have e1 : clrL zs n = [] := by simp [clrL, clrOk, thereB]; omega
    have e2 : clrE zs n = 30 := by simp [clrE, clrOk, thereB]; omega
    rw [e1, e2]
    clear h
    go_enter Try.func18, Try.ntmps18
    go_wp2
    go_ret2
    exact ⟨_, rfl, nil_bytes _ _, Below.refl _ _⟩
  · obtain ⟨m, rfl⟩ := Int.eq_ofNat_of_zero_le (by omega : 0 ≤ n)
    by_cases hm : m ≤ 8 * zs.length
    · have e2 : clrE zs m = 0 := by simp [clrE, clrOk, thereB]; omega
      have e1 : clrL zs m = packL (clrBits (bitsL zs) m (8 * zs.length - m)) (clrBits (bitsL zs) m (8 * zs.length - m)).length := by
        have := clrBits_all (bitsL zs) m (by simpa using hm)
        rw [bitsL_length] at this
        have ok : clrOk zs m = true := by simp [clrOk, thereB]; omega
        rw [clrL, if_pos ok, zeroFrom, clrBits_length, bitsL_length, Int.toNat_natCast, this]
      rw [e1, e2]
      clear e1 e2
      go_enter Try.func18, Try.ntmps18
      go_wp2_with fail
      refine (bits_ref _ zs _ h hl5).mono ?_
      rintro e w2 ⟨r2, rfl, hown, hB2⟩
      obtain ⟨a2, cap2, rfl, hz2⟩ := own_nums hown
      have hbl := bitsL_length zs
      clear hown h
      have hNum : ∀ wr : World, ∀ k, (hz : (clrBits (bitsL zs) m k).length = 0 ∨ ∃ g, a2 = some ⟨g, 0, none⟩ ∧ OwnW w.heap.size wr g (clrBits (bitsL zs) m k)) → NumsAt wr.heap.size wr (.slice a2 (bitsL zs).length cap2) (clrBits (bitsL zs) m k) := by
        intro wr k hz
        refine ⟨a2, cap2, by simp, hz.imp id ?_⟩
        rintro ⟨g, rfl, ho⟩
        exact ⟨g, rfl, ho.block, ho.cell⟩
      have hsl : ∀ k, (clrBits (bitsL zs) m k).length = 8 * zs.length := fun k => by simp
      have hss : ∀ k, clrBits (bitsL zs) m (k + 1) = (clrBits (bitsL zs) m k).set (m + k) 0 := fun k => rfl
      have hz3 : (clrBits (bitsL zs) m 0).length = 0 ∨ ∃ g, a2 = some ⟨g, 0, none⟩ ∧ OwnW w.heap.size w2 g (clrBits (bitsL zs) m 0) := hz2
      generalize (bitsL zs).length = L at *
      subst hbl
      clear hz2
      generalize hSB : clrBits (bitsL zs) m = SB at *
      have HSB : Hid _ := hSB
      clear hSB
      have HN : Hid _ := hNum
      have HL : Hid _ := hsl
      have HSS : Hid _ := hss
      clear hNum hsl hss
      go_wp2
      go_loopw [7] (fun i wr => ∃ k : Nat, m + k ≤ 8 * zs.length ∧ i = .int .i64 (m + k : Nat) ∧ ((SB k).length = 0 ∨ ∃ g, a2 = some ⟨g, 0, none⟩ ∧ OwnW w.heap.size wr g (SB k)) ∧ Below w.heap.size w wr) (fun i _ => 8 * zs.length - (intOf i).toNat)
      case atStart => exact ⟨0, by omega, by simp, hz3, hB2⟩
      case round =>
        clear hz3 hB2
        obtain ⟨k, hk, rfl, hz, hB⟩ := hrel
        by_cases hlt : m + k < 8 * zs.length
        · rcases hz with hz | ⟨g, rfl, ho⟩
          · have := HL.out k; omega
          have hlk := HL.out k
          have hcc := ho.cell (m + k) (by omega)
          have hop := ho.open (m + k)
          have hos := ho.set (m + k) (by omega) 0
          have hs1 := HSS.out k
          have HS1 : Hid _ := hs1
          have HO : Hid _ := hos
          clear hs1 hos
          generalize (SB k)[m + k]?.getD 0 = z at *
          go_wp2
          refine ⟨⟨k + 1, by omega, by simp; omega, ?_, hB.trans (below_set _ _ ho.low)⟩, by simp [intOf]; omega⟩
          rw [HS1.out]
          exact .inr ⟨g, rfl, HO.out⟩
        · obtain rfl : k = 8 * zs.length - m := by omega
          have hLk := HL.out (8 * zs.length - m)
          have hbr := bytes_ref _ (SB (8 * zs.length - m)) wr (HN.out wr _ hz) (by omega)
          generalize hsb : SB (8 * zs.length - m) = sb at *
          have Hsb : Hid _ := hsb
          clear hsb
          have HB3 : Hid _ := hbr
          clear hbr
          go_wp2_with fail
          refine Calls.mono HB3.out ?_
          rintro e w4 ⟨r4, rfl, ho4, hB4⟩
          go_wp2
          go_ret2
          rw [HSB.out, Hsb.out]
          exact ⟨_, rfl, ho4.bytes, hB.trans (hB4.mono hB.size)⟩
    · have e1 : clrL zs m = [] := by simp [clrL, clrOk, thereB]; omega
      have e2 : clrE zs m = 30 := by simp [clrE, clrOk, thereB]; omega
      rw [e1, e2]
      clear h
      go_enter Try.func18, Try.ntmps18
      go_wp2
      go_ret2
      exact ⟨_, rfl, nil_bytes _ _, Below.refl _ _⟩

end Go.Proofs.Ytcncjclolpfddaa
