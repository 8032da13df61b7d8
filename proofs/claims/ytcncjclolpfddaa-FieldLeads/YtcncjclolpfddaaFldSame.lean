/-
  The contracts of Same, of the program and of the document.
-/
import Derived.Test.YtcncjclolpfddaaFldLead
namespace Go.Proofs.Ytcncjclolpfddaa
set_option linter.unusedVariables false
set_option linter.unusedSimpArgs false
open Go Go.RowKit
attribute [local go_sem] Oper.semAt_some

def okS (zs ys : List Int) (n : Int) : Bool := thereB zs.length 0 n && thereB ys.length 0 n
def sameE (zs ys : List Int) (n : Int) : Int := if okS zs ys n then 0 else 30
def sameB (zs ys : List Int) (n : Int) : Bool := okS zs ys n && decide (∀ p, p < n.toNat → bitN zs p = bitN ys p)

theorem bitN_take (zs : List Int) (f p : Nat) (h : p < 8 * f) : bitN (zs.take f) p = bitN zs p := by
  unfold bitN
  rw [List.getElem?_take_of_lt (by omega)]

theorem BytesAt.take {n₀ : Nat} {w : World} {a : Option Addr} {cap : Nat} {zs : List Int} (h : BytesAt n₀ w (.slice a zs.length cap) zs) (f : Nat) (hf : f ≤ zs.length) : BytesAt n₀ w (.slice a f cap) (zs.take f) := by
  obtain ⟨h1, h2, a', cap', e, hz⟩ := h
  cases e
  have hl : (zs.take f).length = f := by simp; omega
  refine ⟨fun z hz => h1 z (List.mem_of_mem_take hz), by omega, a, cap, by rw [hl], ?_⟩
  rcases hz with hz | ⟨b, off, rfl, hb, hc⟩
  · exact .inl (by omega)
  · refine .inr ⟨b, off, rfl, hb, fun j hj => ?_⟩
    rw [hl] at hj
    rw [hc j (by omega), List.getElem?_take_of_lt hj]

theorem same_lead {zs ys : List Int} {m n : Nat} (h : IsLead zs ys n) (h1 : m ≤ 8 * zs.length) (h2 : m ≤ 8 * ys.length) : decide (m ≤ n) = decide (∀ p, p < m → bitN zs p = bitN ys p) := by
  have := h.reach h1 h2
  rw [decide_eq_decide, ← this]

set_option maxHeartbeats 1000000 in
theorem Rsame_calls (v u : Value) (zs ys : List Int) (n : Int) (w : World) (h : BytesAt w.heap.size w v zs) (g : BytesAt w.heap.size w u ys) (h1 : -9223372036854775808 ≤ n ∧ n ≤ 9223372036854775807) :
    Calls Try.prog 16 #[v, u, .int .i64 n] w fun e w' => e = .returned (.tuple #[.bool (sameB zs ys n), .int .i64 (sameE zs ys n)]) ∧ w' = w := by
  have hlead := Rlead_calls v u zs ys w h g
  have HL : Hid _ := hlead
  clear hlead
  have hl := h.len
  have gl := g.len
  obtain ⟨_, _, a, cap, rfl, _⟩ := h
  obtain ⟨_, _, b, cap', rfl, _⟩ := g
  cases t1 : thereB zs.length 0 n
  · have e1 : sameB zs ys n = false := by simp [sameB, okS, t1]
    have e2 : sameE zs ys n = 30 := by simp [sameE, okS, t1]
    rw [e1, e2]
    go_enter Try.func16, Try.ntmps16
    go_wp2_with fail
    refine (Rthere_calls a _ cap 0 n w hl (by decide) h1).mono ?_
    rintro e w' ⟨rfl, rfl⟩
    rw [t1]
    go_wp2
    go_ret2
    exact ⟨rfl, rfl⟩
  · cases t2 : thereB ys.length 0 n
    · have e1 : sameB zs ys n = false := by simp [sameB, okS, t2]
      have e2 : sameE zs ys n = 30 := by simp [sameE, okS, t2]
      rw [e1, e2]
      go_enter Try.func16, Try.ntmps16
      go_wp2_with fail
      refine (Rthere_calls a _ cap 0 n w hl (by decide) h1).mono ?_
      rintro e w' ⟨rfl, rfl⟩
      rw [t1]
      go_wp2_with fail
      refine (Rthere_calls b _ cap' 0 n _ gl (by decide) h1).mono ?_
      rintro e w' ⟨rfl, rfl⟩
      rw [t2]
      go_wp2
      go_ret2
      exact ⟨rfl, rfl⟩
    · have y1 := thereB_yes t1
      have y2 := thereB_yes t2
      obtain ⟨m, rfl⟩ := Int.eq_ofNat_of_zero_le y1.2.1
      have e2 : sameE zs ys m = 0 := by simp [sameE, okS, t1, t2]
      have e1 : ∀ n, IsLead zs ys n → sameB zs ys m = decide (m ≤ n) := fun n hn => by
        rw [same_lead hn (by omega) (by omega)]
        simp [sameB, okS, t1, t2]
      rw [e2]
      have HE : Hid _ := e1
      clear e1 e2
      go_enter Try.func16, Try.ntmps16
      go_wp2_with fail
      refine (Rthere_calls a _ cap 0 m w hl (by decide) h1).mono ?_
      rintro e w' ⟨rfl, rfl⟩
      rw [t1]
      go_wp2_with fail
      refine (Rthere_calls b _ cap' 0 m _ gl (by decide) h1).mono ?_
      rintro e w' ⟨rfl, rfl⟩
      rw [t2]
      go_wp2_with fail
      refine Calls.mono HL.out ?_
      rintro e w' ⟨k, hk, rfl, rfl⟩
      go_wp2
      go_ret2
      exact ⟨by rw [HE.out k hk]; rfl, rfl⟩

set_option maxHeartbeats 2000000 in
theorem same_calls (a b : Option Addr) (cap cap' : Nat) (zs ys : List Int) (n : Int) (w : World) (h : BytesAt w.heap.size w (.slice a zs.length cap) zs) (g : BytesAt w.heap.size w (.slice b ys.length cap') ys) (c1 : zs.length ≤ cap) (c2 : cap ≤ maxLen) (c3 : ys.length ≤ cap') (c4 : cap' ≤ maxLen) (h1 : -9223372036854775808 ≤ n ∧ n ≤ 9223372036854775807) :
    Calls Try.prog 15 #[.slice a zs.length cap, .slice b ys.length cap', .int .i64 n] w fun e w' => e = .returned (.tuple #[.bool (sameB zs ys n), .int .i64 (sameE zs ys n)]) ∧ Below w.heap.size w w' := by
  have hl := h.len
  have gl := g.len
  obtain ⟨_, _, _, _, ea, hz⟩ := id h
  cases ea
  obtain ⟨_, _, _, _, eb, gz⟩ := id g
  cases eb
  unfold maxLen at c2 c4
  cases t1 : thereB zs.length 0 n
  · have e1 : sameB zs ys n = false := by simp [sameB, okS, t1]
    have e2 : sameE zs ys n = 30 := by simp [sameE, okS, t1]
    rw [e1, e2]
    clear h g hz gz
    go_enter Try.func15, Try.ntmps15
    go_wp2_with fail
    refine (there_calls a _ cap 0 n w hl (by decide) h1).mono ?_
    rintro e w' ⟨rfl, rfl⟩
    rw [t1]
    go_wp2
    go_ret2
    exact ⟨rfl, Below.refl _ _⟩
  · cases t2 : thereB ys.length 0 n
    · have e1 : sameB zs ys n = false := by simp [sameB, okS, t2]
      have e2 : sameE zs ys n = 30 := by simp [sameE, okS, t2]
      rw [e1, e2]
      clear h g hz gz
      go_enter Try.func15, Try.ntmps15
      go_wp2_with fail
      refine (there_calls a _ cap 0 n w hl (by decide) h1).mono ?_
      rintro e w' ⟨rfl, rfl⟩
      rw [t1]
      go_wp2_with fail
      refine (there_calls b _ cap' 0 n _ gl (by decide) h1).mono ?_
      rintro e w' ⟨rfl, rfl⟩
      rw [t2]
      go_wp2
      go_ret2
      exact ⟨rfl, Below.refl _ _⟩
    · have y1 := thereB_yes t1
      have y2 := thereB_yes t2
      obtain ⟨m, rfl⟩ := Int.eq_ofNat_of_zero_le y1.2.1
      have e2 : sameE zs ys m = 0 := by simp [sameE, okS, t1, t2]
      obtain ⟨f, hf⟩ : ∃ f, f = (m + 7) / 8 := ⟨_, rfl⟩
      have hroom := room_calls m w (by omega)
      rw [← hf] at hroom
      have e1 : ∀ n, IsLead (zs.take f) (ys.take f) n → sameB zs ys m = decide (m ≤ n) := fun n hn => by
        rw [same_lead hn (by simp; omega) (by simp; omega)]
        have : (∀ p, p < m → bitN (zs.take f) p = bitN (ys.take f) p) ↔ (∀ p, p < m → bitN zs p = bitN ys p) := by
          constructor
          · intro h p hp
            have := h p hp
            rwa [bitN_take _ _ _ (by omega), bitN_take _ _ _ (by omega)] at this
          · intro h p hp
            rw [bitN_take _ _ _ (by omega), bitN_take _ _ _ (by omega)]
            exact h p hp
        have e3 : decide (∀ p, p < m → bitN (zs.take f) p = bitN (ys.take f) p) = decide (∀ p, p < m → bitN zs p = bitN ys p) := by
          rw [decide_eq_decide]; exact this
        rw [e3]
        simp [sameB, okS, t1, t2]
      rw [e2]
      have hf1 : f ≤ zs.length := by omega
      have hf2 : f ≤ ys.length := by omega
      have hlead := fun W (hW : Below w.heap.size w W) => lead_calls _ _ (zs.take f) (ys.take f) W ((h.later hW).take f hf1) ((g.later hW).take f hf2)
      have hcap1 : zs.length = 0 ∨ ∃ x, a = some x := by
        rcases hz with hz | ⟨b1, o1, e, _⟩
        · exact .inl hz
        · exact .inr ⟨_, e⟩
      have hcap2 : ys.length = 0 ∨ ∃ x, b = some x := by
        rcases gz with hz | ⟨b1, o1, e, _⟩
        · exact .inl hz
        · exact .inr ⟨_, e⟩
      have HE : Hid _ := e1
      have HL : Hid _ := hlead
      have HR : Hid _ := hroom
      clear e1 e2 hlead hroom h g hz gz hf
      go_enter Try.func15, Try.ntmps15
      go_wp2_with fail
      refine (there_calls a _ cap 0 m w hl (by decide) h1).mono ?_
      rintro e w' ⟨rfl, rfl⟩
      rw [t1]
      go_wp2_with fail
      refine (there_calls b _ cap' 0 m _ gl (by decide) h1).mono ?_
      rintro e w' ⟨rfl, rfl⟩
      rw [t2]
      go_wp2_with fail
      refine Calls.mono HR.out ?_
      rintro e w' ⟨rfl, rfl⟩
      have hfz1 : a = none → f = 0 := fun e => by
        rcases hcap1 with h | ⟨x, hx⟩
        · omega
        · rw [e] at hx; cases hx
      have hfz2 : b = none → f = 0 := fun e => by
        rcases hcap2 with h | ⟨x, hx⟩
        · omega
        · rw [e] at hx; cases hx
      clear hcap1 hcap2 y1 y2
      cases a with
      | none =>
        obtain rfl := hfz1 rfl
        cases b with
        | none =>
          go_wp2_with fail
          go_region_with (go_at_call 19; refine Calls.mono (HL.out _ (Below.refl _ _).drew) ?_; rintro e w1 ⟨k, hk, rfl, hB⟩)
          all_goals
            go_wp2
            go_ret2
            exact ⟨by rw [HE.out k hk]; rfl, ((Below.refl _ _).drew).trans hB⟩
        | some y =>
          go_wp2_with fail
          go_region_with (go_at_call 19; refine Calls.mono (HL.out _ (Below.refl _ _).drew) ?_; rintro e w1 ⟨k, hk, rfl, hB⟩)
          all_goals
            go_wp2
            go_ret2
            exact ⟨by rw [HE.out k hk]; rfl, ((Below.refl _ _).drew).trans hB⟩
      | some x =>
        cases b with
        | none =>
          obtain rfl := hfz2 rfl
          go_wp2_with fail
          go_region_with (go_at_call 19; refine Calls.mono (HL.out _ (Below.refl _ _).drew) ?_; rintro e w1 ⟨k, hk, rfl, hB⟩)
          all_goals
            go_wp2
            go_ret2
            exact ⟨by rw [HE.out k hk]; rfl, ((Below.refl _ _).drew).trans hB⟩
        | some y =>
          go_wp2_with fail
          go_region_with (go_at_call 19; refine Calls.mono (HL.out _ (Below.refl _ _).drew) ?_; rintro e w1 ⟨k, hk, rfl, hB⟩)
          all_goals
            go_wp2
            go_ret2
            exact ⟨by rw [HE.out k hk]; rfl, ((Below.refl _ _).drew).trans hB⟩

end Go.Proofs.Ytcncjclolpfddaa
