/-
  The contracts of Lead, of the program and of the document: how many first bits are alike.
-/
import Derived.Test.YtcncjclolpfddaaFldGets
import Derived.Test.YtcncjclolpfddaaShelf
namespace Go.Proofs.Ytcncjclolpfddaa
set_option linter.unusedVariables false
set_option linter.unusedSimpArgs false
open Go Go.RowKit
attribute [local go_sem] Oper.semAt_some

/-- n is how many first bits of two rows are alike. -/
structure IsLead (zs ys : List Int) (n : Nat) : Prop where
  le1 : n ≤ 8 * zs.length
  le2 : n ≤ 8 * ys.length
  alike : ∀ p, p < n → bitN zs p = bitN ys p
  ends : n = 8 * zs.length ∨ n = 8 * ys.length ∨ bitN zs n ≠ bitN ys n

theorem IsLead.uniq {zs ys : List Int} {n m : Nat} (h : IsLead zs ys n) (g : IsLead zs ys m) : n = m := by
  have key : ∀ {a b : Nat}, IsLead zs ys a → IsLead zs ys b → ¬ a < b := by
    intro a b ha hb hlt
    rcases ha.ends with e | e | e
    · have := hb.le1; omega
    · have := hb.le2; omega
    · exact e (hb.alike a hlt)
  have h1 := key h g
  have h2 := key g h
  omega
theorem IsLead.reach {zs ys : List Int} {n m : Nat} (h : IsLead zs ys n) (h1 : m ≤ 8 * zs.length) (h2 : m ≤ 8 * ys.length) : m ≤ n ↔ ∀ p, p < m → bitN zs p = bitN ys p := by
  constructor
  · intro hm p hp; exact h.alike p (by omega)
  · intro ha
    apply Decidable.byContradiction
    intro hc
    rcases h.ends with e | e | e
    · omega
    · omega
    · exact e (ha n (by omega))

theorem bk_test (z k : Nat) : bk z k = (z.testBit k).toNat := by
  rw [Nat.testBit_eq_decide_div_mod_eq, bk]
  have := Nat.mod_lt (z / 2 ^ k) (by decide : 0 < 2)
  by_cases h : z / 2 ^ k % 2 = 1
  · simp [h]
  · have : z / 2 ^ k % 2 = 0 := by omega
    simp [this]
theorem bk_xor (z y k : Nat) : bk (z ^^^ y) k = 0 ↔ bk z k = bk y k := by
  rw [bk_test, bk_test, bk_test, Nat.testBit_xor]
  cases z.testBit k <;> cases y.testBit k <;> decide

/-- How many first bits of a byte are 0. -/
def clz (x : Nat) : Nat := 8 - Lib.bitLen x
theorem clz_tab : ∀ x, x < 256 → x ≠ 0 → Lib.bitLen x ≤ 8 ∧ clz x < 8 ∧ bk x (7 - clz x) ≠ 0 ∧ ∀ j, j < 8 → j < clz x → bk x (7 - j) = 0 := by decide +kernel

/-- A byte of both rows, and its bits. -/
theorem bitN_at (zs : List Int) (k j : Nat) (hj : j < 8) : bitN zs (8 * k + j) = bk (zs[k]?.getD 0).toNat (7 - j) := by
  unfold bitN
  rw [show (8 * k + j) / 8 = k by omega, show 7 - (8 * k + j) % 8 = 7 - j by omega]

theorem lead_found {zs ys : List Int} {k : Nat} (h1 : k < zs.length) (h2 : k < ys.length) (hz : FitB zs) (hy : FitB ys) (hal : ∀ p, p < 8 * k → bitN zs p = bitN ys p) {x : Nat} (hx : x = (zs[k]?.getD 0).toNat ^^^ (ys[k]?.getD 0).toNat) (hlt : x < 256) (h0 : x ≠ 0) :
    IsLead zs ys (8 * k + clz x) := by
  obtain ⟨_, c1, c2, c3⟩ := clz_tab x hlt h0
  refine ⟨by omega, by omega, fun p hp => ?_, .inr (.inr ?_)⟩
  · by_cases hp' : p < 8 * k
    · exact hal p hp'
    · have e : p = 8 * k + (p - 8 * k) := by omega
      rw [e, bitN_at _ _ _ (by omega), bitN_at _ _ _ (by omega)]
      have := c3 (p - 8 * k) (by omega) (by omega)
      rw [hx] at this
      exact (bk_xor _ _ _).1 this
  · rw [bitN_at _ _ _ c1, bitN_at _ _ _ c1]
    intro e
    rw [hx] at c2 e
    exact c2 ((bk_xor _ _ _).2 e)
theorem lead_next {zs ys : List Int} {k : Nat} (hal : ∀ p, p < 8 * k → bitN zs p = bitN ys p) (hx : (zs[k]?.getD 0).toNat = (ys[k]?.getD 0).toNat) : ∀ p, p < 8 * (k + 1) → bitN zs p = bitN ys p := by
  intro p hp
  by_cases hp' : p < 8 * k
  · exact hal p hp'
  · have e : p = 8 * k + (p - 8 * k) := by omega
    rw [e, bitN_at _ _ _ (by omega), bitN_at _ _ _ (by omega), hx]

set_option maxHeartbeats 1000000 in
theorem lead_calls (v u : Value) (zs ys : List Int) (w : World) (h : BytesAt w.heap.size w v zs) (g : BytesAt w.heap.size w u ys) :
    Calls Try.prog 19 #[v, u] w fun e w' => ∃ n : Nat, IsLead zs ys n ∧ e = .returned (.int .i64 n) ∧ Below w.heap.size w w' := by
  obtain ⟨hf, hl, a, cap, rfl, hz⟩ := h
  obtain ⟨gf, gl, b, cap', rfl, gz⟩ := g
  obtain ⟨M, hM⟩ : ∃ M : Nat, M = min zs.length ys.length := ⟨_, rfl⟩
  have hm : min (zs.length : Int) (ys.length : Int) = (M : Int) := by omega
  have hM1 : M ≤ zs.length := by omega
  have hM2 : M ≤ ys.length := by omega
  have hM3 : M = zs.length ∨ M = ys.length := by omega
  clear hM
  go_enter Try.func19, Try.ntmps19
  go_wp2
  go_loopw [14] (fun i wr => ∃ k : Nat, k ≤ M ∧ i = .int .i64 k ∧ (∀ p, p < 8 * k → bitN zs p = bitN ys p) ∧ Below w.heap.size w wr) (fun i _ => M - (intOf i).toNat)
  case atStart => exact ⟨0, Nat.zero_le _, rfl, fun p hp => absurd hp (by omega), Below.refl _ _⟩
  case round =>
    obtain ⟨k, hk, rfl, hal, hB⟩ := hrel
    by_cases hlt : k < M
    · rcases hz with hz | ⟨b1, o1, rfl, hb1, hc1⟩
      · omega
      rcases gz with gz | ⟨b2, o2, rfl, hb2, hc2⟩
      · omega
      have c1 := (hB.cell (p := ⟨b1, o1 + k, none⟩) hb1).trans (hc1 k (by omega))
      have c2 := (hB.cell (p := ⟨b2, o2 + k, none⟩) hb2).trans (hc2 k (by omega))
      have f1 := fit_at hf k
      have f2 := fit_at gf k
      have hx := u8_xor _ _ f1.1 f1.2 f2.1 f2.2
      have hfound := fun x => @lead_found zs ys k (by omega) (by omega) hf gf hal x
      have hnext := lead_next (k := k) hal
      have hxl : (zs[k]?.getD 0).toNat ^^^ (ys[k]?.getD 0).toNat < 256 := Nat.xor_lt_two_pow (n := 8) (by omega) (by omega)
      have hx0 : (zs[k]?.getD 0).toNat ^^^ (ys[k]?.getD 0).toNat = 0 → (zs[k]?.getD 0).toNat = (ys[k]?.getD 0).toNat := fun e => tab_ext _ _ (by omega) (by omega) (fun j _ => (bk_xor _ _ _).1 (by rw [e]; simp [bk]))
      generalize zs[k]?.getD 0 = z at *
      generalize ys[k]?.getD 0 = y at *
      generalize hxx : z.toNat ^^^ y.toNat = x at *
      have HF : Hid _ := hfound
      have HN : Hid _ := hnext
      have H0 : Hid _ := hx0
      have HA : Hid _ := hal
      have HX : Hid _ := hxx
      clear hfound hnext hx0 hal hxx hc1 hc2
      by_cases hxz : x = 0
      · have hq : (((x : Nat) : Int) != 0) = false := by simp [hxz]
        go_wp2
        go_region
        go_wp2
        exact ⟨⟨k + 1, by omega, by simp, HN.out (H0.out hxz), hB.drew⟩, by simp [intOf]; omega⟩
      · have hq : (((x : Nat) : Int) != 0) = true := by simp [hxz]
        go_wp2
        go_region
        go_wp2_with fail
        refine (Try.bits_LeadingZeros8 (x : Int) _ (by omega) (by omega)).mono ?_
        rintro e w2 ⟨rfl, rfl⟩
        obtain ⟨t1, t2, t3, t4⟩ := clz_tab x hxl hxz
        have hcl : ((8 : Int) - (Lib.bitLen ((x : Int).toNat) : Int)) = ((clz x : Nat) : Int) := by
          unfold clz
          rw [Int.toNat_natCast]
          omega
        have HC : Hid _ := hcl
        clear t3 t4
        rw [HC.out]
        go_wp2
        go_ret
        refine ⟨8 * k + clz x, HF.out x rfl hxl hxz, ?_, hB.drew⟩
        refine ret_int ?_
        push_cast
        rfl
    · obtain rfl : k = M := by omega
      go_wp2
      go_ret
      refine ⟨8 * k, ⟨by omega, by omega, hal, by omega⟩, ?_, hB⟩
      refine ret_int ?_
      push_cast
      rfl

set_option maxHeartbeats 1000000 in
theorem Rlead_calls (v u : Value) (zs ys : List Int) (w : World) (h : BytesAt w.heap.size w v zs) (g : BytesAt w.heap.size w u ys) :
    Calls Try.prog 20 #[v, u] w fun e w' => ∃ n : Nat, IsLead zs ys n ∧ e = .returned (.int .i64 n) ∧ w' = w := by
  have hl := h.len
  have gl := g.len
  have hbit := fun k hk => Bit_calls v zs k _ w h hk
  have gbit := fun k hk => Bit_calls u ys k _ w g hk
  have HB : Hid _ := hbit
  have GB : Hid _ := gbit
  clear hbit gbit
  obtain ⟨_, _, a, cap, rfl, hz⟩ := h
  obtain ⟨_, _, b, cap', rfl, gz⟩ := g
  clear hz gz
  go_enter Try.func20, Try.ntmps20
  go_wp2
  go_loopw [5] (fun i wr => ∃ k : Nat, k ≤ 8 * zs.length ∧ k ≤ 8 * ys.length ∧ i = .int .i64 k ∧ (∀ p, p < k → bitN zs p = bitN ys p) ∧ wr = w) (fun i _ => 8 * zs.length - (intOf i).toNat)
  case atStart => exact ⟨0, Nat.zero_le _, Nat.zero_le _, rfl, fun p hp => absurd hp (by omega), rfl⟩
  case round =>
    obtain ⟨k, hk1, hk2, rfl, hal, rfl⟩ := hrel
    have HA : Hid _ := hal
    clear hal
    by_cases h1 : k < 8 * zs.length
    · by_cases h2 : k < 8 * ys.length
      · have b1 := HB.out k h1
        have b2 := GB.out k h2
        have hne : bitN zs k ≠ bitN ys k → IsLead zs ys k := fun hne => ⟨hk1, hk2, HA.out, .inr (.inr hne)⟩
        have heq : bitN zs k = bitN ys k → ∀ p, p < k + 1 → bitN zs p = bitN ys p := fun he p hp => by
          by_cases c : p = k
          · rw [c]; exact he
          · exact HA.out p (by omega)
        generalize bitN zs k = x at *
        generalize bitN ys k = y at *
        have B1 : Hid _ := b1
        have B2 : Hid _ := b2
        have HN : Hid _ := hne
        have HE : Hid _ := heq
        clear b1 b2 hne heq
        by_cases hxy : x = y
        · subst hxy
          go_wp2_with fail
          refine Calls.mono B1.out ?_
          rintro e w1 ⟨rfl, rfl⟩
          go_wp2_with fail
          refine Calls.mono B2.out ?_
          rintro e w1 ⟨rfl, rfl⟩
          go_wp2
          exact ⟨⟨k + 1, by omega, by omega, by simp, HE.out trivial, trivial⟩, by simp [intOf]; omega⟩
        · have hq : (((x : Nat) : Int) == ((y : Nat) : Int)) = false := by simp; omega
          go_wp2_with fail
          refine Calls.mono B1.out ?_
          rintro e w1 ⟨rfl, rfl⟩
          go_wp2_with fail
          refine Calls.mono B2.out ?_
          rintro e w1 ⟨rfl, rfl⟩
          go_wp2
          go_ret
          exact ⟨k, HN.out hxy, rfl, rfl⟩
      · go_wp2
        go_ret
        exact ⟨k, ⟨hk1, hk2, HA.out, .inr (.inl (by omega))⟩, rfl, rfl⟩
    · go_wp2
      go_ret
      exact ⟨k, ⟨hk1, hk2, HA.out, .inl (by omega)⟩, rfl, rfl⟩

end Go.Proofs.Ytcncjclolpfddaa
