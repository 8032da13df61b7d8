/-
  The contract of the document's Put: it is the program's.
-/
import Derived.Test.YtcncjclolpfddaaFldRbits
namespace Go.Proofs.Ytcncjclolpfddaa
set_option linter.unusedVariables false
set_option linter.unusedSimpArgs false
open Go Go.RowKit
attribute [local go_sem] Oper.semAt_some

def setBits (l : List Nat) (p m v : Nat) : Nat → List Nat
  | 0 => l
  | k + 1 => (setBits l p m v k).set (p + k) (bk v (m - 1 - k))
@[simp] theorem setBits_length (l : List Nat) (p m v k : Nat) : (setBits l p m v k).length = l.length := by
  induction k with
  | zero => rfl
  | succ k ih => simp [setBits, ih]
theorem setBits_get (l : List Nat) (p m v k q : Nat) (h : p + k ≤ l.length) : (setBits l p m v k)[q]? = if p ≤ q ∧ q < p + k then some (bk v (m - 1 - (q - p))) else l[q]? := by
  induction k with
  | zero => have : ¬ (p ≤ q ∧ q < p + 0) := by omega
            simp [setBits]; omega
  | succ k ih =>
    rw [setBits]
    by_cases c : p + k = q
    · subst c
      rw [List.getElem?_set_self (by simp; omega), if_pos (by omega), show p + k - p = k by omega]
    · rw [List.getElem?_set_ne c, ih (by omega)]
      by_cases d : p ≤ q ∧ q < p + k
      · rw [if_pos d, if_pos (by omega)]
      · rw [if_neg d, if_neg (by omega)]

theorem bit01 (b : Nat) (h : b < 2) : (if b = 1 then 1 else 0) = b := by
  have : b = 0 ∨ b = 1 := by omega
  rcases this with rfl | rfl <;> rfl

theorem put_pure (zs : List Int) (hf : FitB zs) (p m v : Nat) (h : p + m ≤ 8 * zs.length) : packL (setBits (bitsL zs) p m v m) (setBits (bitsL zs) p m v m).length = writeL zs p m v m := by
  have hlen : (packL (setBits (bitsL zs) p m v m) (setBits (bitsL zs) p m v m).length).length = zs.length := by simp; omega
  refine row_ext (by rw [hlen]; simp) (packL_fit _ _) (writeL_fit hf _ _ _ _) fun q hq => ?_
  rw [hlen] at hq
  rw [bitN_packL _ _ _ (Nat.le_refl _), bitN_writeL hf _ _ _ _ _ h, setBits_get _ _ _ _ _ _ (by simp; omega)]
  by_cases c : p ≤ q ∧ q < p + m
  · rw [if_pos c, if_pos c]
    have := bit01 (bk v (m - 1 - (q - p))) (bk_lt _ _)
    simpa [hq] using this
  · rw [if_neg c, if_neg c, bitsL_get zs q hq]
    have := bit01 (bitN zs q) (bitN_lt _ _)
    simpa [hq] using this

set_option maxHeartbeats 2000000 in
theorem Rput_calls (u : Value) (zs : List Int) (at' n : Int) (v : Nat) (w : World) (h : BytesAt w.heap.size w u zs) (hl5 : zs.length ≤ 100000) (h0 : -9223372036854775808 ≤ at' ∧ at' ≤ 9223372036854775807) (h1 : -9223372036854775808 ≤ n ∧ n ≤ 9223372036854775807) (hv : v < 18446744073709551616) :
    Calls Try.prog 13 #[u, .int .i64 at', .int .i64 n, .int .u64 v] w fun e w' => ∃ r, e = .returned (.tuple #[r, .int .i64 (putE zs at' n v)]) ∧ BytesAt w'.heap.size w' r (putL zs at' n v) ∧ Below w.heap.size w w' := by
  have hl := h.len
  have hf := h.fit
  obtain ⟨_, _, a, cap, rfl, _⟩ := id h
  by_cases hn : n ≤ 64
  · cases ht : thereB zs.length at' n
    · have ev : putL zs at' n v = [] := by simp [putL, putOk, okG, ht]
      have ee : putE zs at' n v = 30 := by simp [putE, okG, ht]
      rw [ev, ee]
      clear h
      go_enter Try.func13, Try.ntmps13
      go_wp2_with fail
      refine (Rthere_calls a _ cap at' n w hl h0 h1).mono ?_
      rintro e w' ⟨rfl, rfl⟩
      rw [ht]
      go_wp2
      go_ret2
      exact ⟨_, rfl, nil_bytes _ _, Below.refl _ _⟩
    · have hth := thereB_yes ht
      obtain ⟨p, rfl⟩ := Int.eq_ofNat_of_zero_le hth.1
      obtain ⟨m, rfl⟩ := Int.eq_ofNat_of_zero_le hth.2.1
      have hm : m ≤ 64 := by omega
      have hok : okG zs.length p m = true := by simp [okG, ht]; omega
      have hwc := fits_calls v m w hv hm
      cases hw : wideB v m
      · have ev : putL zs p m v = writeL zs p m v m := by simp [putL, putOk, hok, hw]
        have ee : putE zs p m v = 0 := by simp [putE, hok, hw]
        rw [ev, ee]
        rw [hw] at hwc
        have HW : Hid _ := hwc
        have hpure := put_pure zs hf p m v (by omega)
        have HP : Hid _ := hpure
        clear hwc hw ev ee hpure
        go_enter Try.func13, Try.ntmps13
        go_wp2_with fail
        refine (Rthere_calls a _ cap p m w hl h0 h1).mono ?_
        rintro e w' ⟨rfl, rfl⟩
        rw [ht]
        clear ht
        go_wp2_with fail
        refine Calls.mono HW.out ?_
        rintro e w1 ⟨rfl, rfl⟩
        go_wp2_with fail
        refine (bits_ref _ zs _ h hl5).mono ?_
        rintro e w2 ⟨r2, rfl, hown, hB2⟩
        obtain ⟨a2, cap2, rfl, hz2⟩ := own_nums hown
        have hbl := bitsL_length zs
        clear hown h
        have hNum : ∀ wr : World, ∀ k, (hz : (setBits (bitsL zs) p m v k).length = 0 ∨ ∃ g, a2 = some ⟨g, 0, none⟩ ∧ OwnW w1.heap.size wr g (setBits (bitsL zs) p m v k)) → NumsAt wr.heap.size wr (.slice a2 (bitsL zs).length cap2) (setBits (bitsL zs) p m v k) := by
          intro wr k hz
          refine ⟨a2, cap2, by simp, hz.imp id ?_⟩
          rintro ⟨g, rfl, ho⟩
          exact ⟨g, rfl, ho.block, ho.cell⟩
        have hsl : ∀ k, (setBits (bitsL zs) p m v k).length = 8 * zs.length := fun k => by simp
        have hss : ∀ k, setBits (bitsL zs) p m v (k + 1) = (setBits (bitsL zs) p m v k).set (p + k) (bk v (m - 1 - k)) := fun k => rfl
        have hz3 : (setBits (bitsL zs) p m v 0).length = 0 ∨ ∃ g, a2 = some ⟨g, 0, none⟩ ∧ OwnW w1.heap.size w2 g (setBits (bitsL zs) p m v 0) := hz2
        generalize (bitsL zs).length = L at *
        subst hbl
        clear hz2
        generalize setBits (bitsL zs) p m v = SB at *
        have HN : Hid _ := hNum
        have HL : Hid _ := hsl
        have HSS : Hid _ := hss
        clear hNum hsl hss
        go_wp2
        go_loopw [11] (fun i wr => ∃ k : Nat, k ≤ m ∧ i = .int .i64 k ∧ ((SB k).length = 0 ∨ ∃ g, a2 = some ⟨g, 0, none⟩ ∧ OwnW w1.heap.size wr g (SB k)) ∧ Below w1.heap.size w1 wr) (fun i _ => m - (intOf i).toNat)
        case atStart => exact ⟨0, Nat.zero_le _, rfl, hz3, hB2⟩
        case round =>
          clear hz3 hB2
          obtain ⟨k, hk, rfl, hz, hB⟩ := hrel
          by_cases hlt : k < m
          · rcases hz with hz | ⟨g, rfl, ho⟩
            · have := HL.out k; omega
            have hlk := HL.out k
            have hcc := ho.cell (p + k) (by omega)
            have hop := ho.open (p + k)
            have hos := ho.set (p + k) (by omega) (bk v (m - 1 - k))
            have hbit : (((v : Nat) : Int) / 2 ^ (m - 1 - k)).tmod 2 = ((bk v (m - 1 - k) : Nat) : Int) := by
              have := mod2_u8 (v : Int) (m - 1 - k) (by omega)
              rw [Int.tmod_eq_emod_of_nonneg (Int.ediv_nonneg (by omega) (Int.le_of_lt (Int.pow_pos (by decide))))]
              simpa using this
            have hs1 := HSS.out k
            generalize hbb : bk v (m - 1 - k) = bb at *
            have HS1 : Hid _ := hs1
            have HO : Hid _ := hos
            clear hs1 hos hbb
            generalize (SB k)[p + k]?.getD 0 = z at *
            go_wp2
            refine ⟨⟨k + 1, by omega, by simp, ?_, hB.trans (below_set _ _ ho.low)⟩, by simp [intOf]; omega⟩
            rw [HS1.out]
            exact .inr ⟨g, rfl, HO.out⟩
          · obtain rfl : k = m := by omega
            go_wp2_with fail
            refine (bytes_ref _ (SB k) wr (HN.out wr k hz) (by have := HL.out k; omega)).mono ?_
            rintro e w4 ⟨r4, rfl, ho4, hB4⟩
            go_wp2
            go_ret2
            have := ho4.bytes
            rw [HP.out] at this
            exact ⟨_, rfl, this, hB.trans (hB4.mono hB.size)⟩
      · have ev : putL zs p m v = [] := by simp [putL, putOk, hok, hw]
        have ee : putE zs p m v = 1 := by simp [putE, hok, hw]
        rw [ev, ee]
        rw [hw] at hwc
        have HW : Hid _ := hwc
        clear hwc hw ev ee h
        go_enter Try.func13, Try.ntmps13
        go_wp2_with fail
        refine (Rthere_calls a _ cap p m w hl h0 h1).mono ?_
        rintro e w' ⟨rfl, rfl⟩
        rw [ht]
        clear ht
        go_wp2_with fail
        refine Calls.mono HW.out ?_
        rintro e w1 ⟨rfl, rfl⟩
        go_wp2
        go_ret2
        exact ⟨_, rfl, nil_bytes _ _, Below.refl _ _⟩
  · have ev : putL zs at' n v = [] := by simp [putL, putOk, okG, hn]
    have ee : putE zs at' n v = 30 := by simp [putE, okG, hn]
    rw [ev, ee]
    clear h
    go_enter Try.func13, Try.ntmps13
    go_wp2
    go_ret2
    exact ⟨_, rfl, nil_bytes _ _, Below.refl _ _⟩

end Go.Proofs.Ytcncjclolpfddaa
