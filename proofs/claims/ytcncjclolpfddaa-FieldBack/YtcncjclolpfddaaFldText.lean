/-
  The contracts of Text, of the program and of the document: bits as letters.
-/
import Derived.Test.YtcncjclolpfddaaFldGets
namespace Go.Proofs.Ytcncjclolpfddaa
set_option linter.unusedVariables false
set_option linter.unusedSimpArgs false
open Go Go.RowKit
attribute [local go_sem] Oper.semAt_some

/-- n letters of bits, k of them written. -/
def textR (zs : List Int) (p n : Nat) : Nat → List Int
  | 0 => List.replicate n 0
  | k + 1 => (textR zs p n k).set k (48 + (bitN zs (p + k) : Nat))
@[simp] theorem textR_length (zs : List Int) (p n k : Nat) : (textR zs p n k).length = n := by
  induction k with
  | zero => simp [textR]
  | succ k ih => simp [textR, ih]
theorem textR_fit (zs : List Int) (p n k : Nat) : FitB (textR zs p n k) := by
  induction k with
  | zero => intro z hz; have := List.eq_of_mem_replicate hz; subst this; decide
  | succ k ih =>
    intro z hz
    rcases List.mem_or_eq_of_mem_set hz with hz | rfl
    · exact ih z hz
    · have := bitN_lt zs (p + k); omega
theorem textR_get (zs : List Int) (p n k q : Nat) (hq : q < n) : (textR zs p n k)[q]? = some ((if q < k then 48 + ((bitN zs (p + q) : Nat) : Int) else 0) : Int) := by
  induction k with
  | zero => rw [textR, List.getElem?_replicate, if_pos hq]; simp
  | succ k ih =>
    rw [textR]
    by_cases c : k = q
    · subst c
      rw [List.getElem?_set_self (by simpa using hq), if_pos (by omega)]
    · rw [List.getElem?_set_ne c, ih]
      by_cases d : q < k
      · rw [if_pos d, if_pos (by omega)]
      · rw [if_neg d, if_neg (by omega)]
def textOf (zs : List Int) (p n : Nat) : List Int := textR zs p n n

def textV (zs : List Int) (at' n : Int) : ByteArray := if thereB zs.length at' n then strOfNums (textOf zs at'.toNat n.toNat) else ⟨#[]⟩
def textE (zs : List Int) (at' n : Int) : Int := if thereB zs.length at' n then 0 else 30

set_option maxHeartbeats 2000000 in
theorem text_calls (v : Value) (zs : List Int) (at' n : Int) (w : World) (h : BytesAt w.heap.size w v zs) (hl5 : zs.length ≤ 100000) (h0 : -9223372036854775808 ≤ at' ∧ at' ≤ 9223372036854775807) (h1 : -9223372036854775808 ≤ n ∧ n ≤ 9223372036854775807) :
    Calls Try.prog 23 #[v, .int .i64 at', .int .i64 n] w fun e w' => e = .returned (.tuple #[.string (textV zs at' n), .int .i64 (textE zs at' n)]) ∧ Below w.heap.size w w' := by
  have hbit := bit_calls v zs
  have hl := h.len
  obtain ⟨_, _, a, cap, rfl, _⟩ := id h
  cases ht : thereB zs.length at' n
  · have ev : textV zs at' n = ⟨#[]⟩ := by simp [textV, ht]
    have ee : textE zs at' n = 30 := by simp [textE, ht]
    rw [ev, ee]
    clear h
    go_enter Try.func23, Try.ntmps23
    go_wp2_with fail
    refine (there_calls a _ cap at' n w hl h0 h1).mono ?_
    rintro e w' ⟨rfl, rfl⟩
    rw [ht]
    go_wp2
    go_ret2
    exact ⟨rfl, Below.refl _ _⟩
  · have hth := thereB_yes ht
    obtain ⟨p, rfl⟩ := Int.eq_ofNat_of_zero_le hth.1
    obtain ⟨m, rfl⟩ := Int.eq_ofNat_of_zero_le hth.2.1
    have ev : textV zs p m = strOfNums (textR zs p m m) := by simp [textV, ht, textOf]
    have ee : textE zs p m = 0 := by simp [textE, ht]
    rw [ev, ee]
    clear ev ee
    obtain ⟨i, hi, hz0, hs, hby⟩ := info_parts info_u8
    go_enter Try.func23, Try.ntmps23
    go_wp2_with fail
    refine (there_calls a _ cap p m w hl h0 h1).mono ?_
    rintro e w' ⟨rfl, rfl⟩
    rw [ht]
    clear ht
    go_wp2_with (at_make; refine wpList_make_full _ rfl _ _ _ rfl w'.heap.size 5 i (.int .u8 0) 1 Try.underlying22 hi hz0 hs .i64 .i64 _ _ m rfl rfl rfl rfl (by rw [hby]; omega) (by unfold maxLen; omega) (Nat.le_refl _) ?_; intro X hown hgr; have hG := own_made hown; have hB0 := (Below.refl _ w').grown hgr (Nat.le_refl _) (fun k hk => by cases hk); clear hown hgr)
    generalize hg0 : w'.heap.size = g0 at *
    go_loopw [19] (fun i wr => ∃ k : Nat, k ≤ m ∧ i = .int .i64 k ∧ OwnG g0 wr g0 (textR zs p m k) ∧ Below g0 w' wr) (fun i _ => m - (intOf i).toNat)
    case atStart => exact ⟨0, Nat.zero_le _, rfl, hG, hB0⟩
    case round =>
      clear hG hB0
      obtain ⟨k, hk, rfl, hG, hB⟩ := hrel
      by_cases hlt : k < m
      · have hc := hbit (p + k) _ _ (h.below hB) (by omega)
        have e1 : ((p + k : Nat) : Int) = (p : Int) + k := by omega
        rw [e1] at hc
        have hbl := bitN_lt zs (p + k)
        have hlen : (textR zs p m k).length = m := textR_length ..
        have hcc := hG.cell k (by omega)
        have hop := hG.open k
        have hset : textR zs p m (k + 1) = (textR zs p m k).set k (48 + (bitN zs (p + k) : Nat)) := rfl
        have hos := hG.set k (by omega) (48 + (bitN zs (p + k) : Nat))
        rw [← hset] at hos
        generalize hy : textR zs p m (k + 1) = y at *
        have HY : Hid _ := hy
        clear hy
        generalize textR zs p m k = x at *
        generalize bitN zs (p + k) = bb at *
        generalize x[k]?.getD 0 = z at *
        have HC : Hid _ := hc
        have HO : Hid _ := hos
        clear hc hos hset hbit
        go_wp2_with fail
        refine Calls.mono HC.out ?_
        rintro e w1 ⟨rfl, rfl⟩
        go_wp2
        refine ⟨⟨k + 1, by omega, by simp, ?_, hB.trans (below_set _ _ (Nat.le_refl _))⟩, by simp [intOf]; omega⟩
        rw [HY.out]
        exact HO.out
      · obtain rfl : k = m := by omega
        have hbt := (hG.own (cap := k) (textR_fit zs p k k) (by simp; omega)).bytes
        rw [textR_length] at hbt
        have hx := hbt.text
        generalize hll : strOfNums (textR zs p k k) = l at *
        have HLL : Hid _ := hll
        clear hll
        go_wp2
        go_ret2
        rw [HLL.out]
        exact ⟨rfl, hg0 ▸ hB⟩

set_option maxHeartbeats 2000000 in
theorem Rtext_calls (v : Value) (zs : List Int) (at' n : Int) (w : World) (h : BytesAt w.heap.size w v zs) (hl5 : zs.length ≤ 100000) (h0 : -9223372036854775808 ≤ at' ∧ at' ≤ 9223372036854775807) (h1 : -9223372036854775808 ≤ n ∧ n ≤ 9223372036854775807) :
    Calls Try.prog 24 #[v, .int .i64 at', .int .i64 n] w fun e w' => e = .returned (.tuple #[.string (textV zs at' n), .int .i64 (textE zs at' n)]) ∧ Below w.heap.size w w' := by
  have hbit := Bit_calls v zs
  have hl := h.len
  obtain ⟨_, _, a, cap, rfl, _⟩ := id h
  cases ht : thereB zs.length at' n
  · have ev : textV zs at' n = ⟨#[]⟩ := by simp [textV, ht]
    have ee : textE zs at' n = 30 := by simp [textE, ht]
    rw [ev, ee]
    clear h
    go_enter Try.func24, Try.ntmps24
    go_wp2_with fail
    refine (Rthere_calls a _ cap at' n w hl h0 h1).mono ?_
    rintro e w' ⟨rfl, rfl⟩
    rw [ht]
    go_wp2
    go_ret2
    exact ⟨rfl, Below.refl _ _⟩
  · have hth := thereB_yes ht
    obtain ⟨p, rfl⟩ := Int.eq_ofNat_of_zero_le hth.1
    obtain ⟨m, rfl⟩ := Int.eq_ofNat_of_zero_le hth.2.1
    have ev : textV zs p m = strOfNums (textR zs p m m) := by simp [textV, ht, textOf]
    have ee : textE zs p m = 0 := by simp [textE, ht]
    rw [ev, ee]
    clear ev ee
    obtain ⟨i, hi, hz0, hs, hby⟩ := info_parts info_u8
    go_enter Try.func24, Try.ntmps24
    go_wp2_with fail
    refine (Rthere_calls a _ cap p m w hl h0 h1).mono ?_
    rintro e w' ⟨rfl, rfl⟩
    rw [ht]
    clear ht
    go_wp2_with (at_make; refine wpList_make_full _ rfl _ _ _ rfl w'.heap.size 5 i (.int .u8 0) 1 Try.underlying22 hi hz0 hs .i64 .i64 _ _ m rfl rfl rfl rfl (by rw [hby]; omega) (by unfold maxLen; omega) (Nat.le_refl _) ?_; intro X hown hgr; have hG := own_made hown; have hB0 := (Below.refl _ w').grown hgr (Nat.le_refl _) (fun k hk => by cases hk); clear hown hgr)
    generalize hg0 : w'.heap.size = g0 at *
    go_loopw [9] (fun i wr => ∃ k : Nat, k ≤ m ∧ i = .int .i64 k ∧ OwnG g0 wr g0 (textR zs p m k) ∧ Below g0 w' wr) (fun i _ => m - (intOf i).toNat)
    case atStart => exact ⟨0, Nat.zero_le _, rfl, hG, hB0⟩
    case round =>
      clear hG hB0
      obtain ⟨k, hk, rfl, hG, hB⟩ := hrel
      by_cases hlt : k < m
      · have hc := hbit (p + k) _ _ (h.below hB) (by omega)
        have e1 : ((p + k : Nat) : Int) = (p : Int) + k := by omega
        rw [e1] at hc
        have hbl := bitN_lt zs (p + k)
        have hlen : (textR zs p m k).length = m := textR_length ..
        have hcc := hG.cell k (by omega)
        have hop := hG.open k
        have hset : textR zs p m (k + 1) = (textR zs p m k).set k (48 + (bitN zs (p + k) : Nat)) := rfl
        have hos := hG.set k (by omega) (48 + (bitN zs (p + k) : Nat))
        rw [← hset] at hos
        generalize hy : textR zs p m (k + 1) = y at *
        have HY : Hid _ := hy
        clear hy
        generalize textR zs p m k = x at *
        generalize bitN zs (p + k) = bb at *
        generalize x[k]?.getD 0 = z at *
        have HC : Hid _ := hc
        have HO : Hid _ := hos
        clear hc hos hset hbit
        go_wp2_with fail
        refine Calls.mono HC.out ?_
        rintro e w1 ⟨rfl, rfl⟩
        go_wp2
        refine ⟨⟨k + 1, by omega, by simp, ?_, hB.trans (below_set _ _ (Nat.le_refl _))⟩, by simp [intOf]; omega⟩
        rw [HY.out]
        exact HO.out
      · obtain rfl : k = m := by omega
        have hbt := (hG.own (cap := k) (textR_fit zs p k k) (by simp; omega)).bytes
        rw [textR_length] at hbt
        have hx := hbt.text
        generalize hll : strOfNums (textR zs p k k) = l at *
        have HLL : Hid _ := hll
        clear hll
        go_wp2
        go_ret2
        rw [HLL.out]
        exact ⟨rfl, hg0 ▸ hB⟩

end Go.Proofs.Ytcncjclolpfddaa
