/-
  The methods of grouped but for addr.
-/
import Derived.Test.YtlpbffcijhgelaaDoorAddrNum
import Derived.Test.YtlpbffcijhgelaaDoorAddrOwn
import Derived.Laws.BitsAll
namespace Go.Proofs.YtlpbffcijhgelaaDoor
open Go Go.RowKit
set_option linter.unusedVariables false
set_option linter.unusedSimpArgs false

set_option maxRecDepth 100000 in
theorem dot_whole (d : Dot) (b o : Nat) (w : World) (hat : DotAt d w b o) :
    Calls Tryd.prog 120 #[.pointer (some ⟨b, o, none⟩)] w fun e w' => e = .returned (.bool d.whole) ∧ w' = w := by
  obtain ⟨c0, c1, c2, c3, c4, c5⟩ := hat
  obtain ⟨e0, e1, e2, cnt, ⟨v, g⟩⟩ := d
  dsimp only at *
  by_cases h3 : cnt = 3
  · subst h3
    go_enter Tryd.func120, Tryd.ntmps120
    go_wp2
    go_ret
    exact ⟨rfl, rfl⟩
  · have h4 : (cnt == 3) = false := by simpa using h3
    have h5 : Dot.whole ⟨e0, e1, e2, cnt, ⟨v, g⟩⟩ = false := by simp [Dot.whole, h3]
    rw [h5]
    go_enter Tryd.func120, Tryd.ntmps120
    go_wp2
    go_ret
    exact ⟨rfl, rfl⟩

/-- The cells of a grouped, and the row of its bytes. -/
structure GrpAt (B b : Nat) (g : Grp) (w : World) : Prop where
  typed : Typed w b 84
  hB : B ≤ b
  row : ∃ v, w.cell? ⟨b, 0, none⟩ = some v ∧ w.ownsRow B 5 1 v g.ended.length (g.ended.map (fun z => Value.int .u8 z))
  c1 : w.cell? ⟨b, 1, none⟩ = some (.string ⟨g.part.toArray⟩)
  c2 : w.cell? ⟨b, 2, none⟩ = some (.int .u16 g.value)
  c3 : w.cell? ⟨b, 3, none⟩ = some (.int .i64 g.colons)
  c4 : w.cell? ⟨b, 4, none⟩ = some (.bool g.gapped)
  c5 : w.cell? ⟨b, 5, none⟩ = some (.int .i64 g.gap)
  c6 : w.cell? ⟨b, 6, none⟩ = some (.bool g.dots)
  tail : DotAt g.tail w b 7

theorem GrpAt.size {B b : Nat} {g : Grp} {w : World} (h : GrpAt B b g w) : B ≤ w.heap.size := by
  obtain ⟨cs, hc⟩ := h.typed
  have := (Array.getElem?_eq_some_iff.1 hc).1
  have := h.hB
  omega

/-- The row of bytes does not lie in the block of the grouped itself. -/
theorem Typed.apart {B b n : Nat} {w : World} {v : Value} {xs : List Value} {t : TypeId} (h : Typed w b t) (ht : t ≠ 5) (hown : w.ownsRow B 5 1 v n xs) : v.ownBlock ≠ some b := by
  obtain ⟨cs, hc⟩ := h
  intro e
  rcases hown.2 with ⟨rfl, _⟩ | ⟨g, cap, cur, rfl, _, hg, _⟩
  · simp [Value.ownBlock] at e
  · simp only [Value.ownBlock, Option.some.injEq] at e
    subst e
    rw [hc] at hg
    injection hg with hg
    injection hg with _ hg
    exact ht hg

theorem own_wrote {B b o k n : Nat} {w w' : World} {v : Value} {xs : List Value} {t : TypeId} (h : Wrote b o k w w') (ht : Typed w b t) (hn : t ≠ 5) (hown : w.ownsRow B 5 1 v n xs) : w'.ownsRow B 5 1 v n xs := by
  have hap := ht.apart hn hown
  refine ⟨hown.1, hown.2.imp id ?_⟩
  rintro ⟨g, cap, cur, rfl, hb, hg, r⟩
  refine ⟨g, cap, cur, rfl, hb, ?_, r⟩
  rw [h.other g (fun e => hap (by simp [Value.ownBlock, e]))]
  exact hg

theorem DotAt.wrote {b o k p : Nat} {d : Dot} {w w' : World} (h : DotAt d w b p) (g : Wrote b o k w w') (hp : p + 6 ≤ o ∨ o + k ≤ p) : DotAt d w' b p :=
  ⟨by rw [g.cell _ (by omega)]; exact h.c0, by rw [g.cell _ (by omega)]; exact h.c1, by rw [g.cell _ (by omega)]; exact h.c2,
    by rw [g.cell _ (by omega)]; exact h.c3, by rw [g.cell _ (by omega)]; exact h.c4, by rw [g.cell _ (by omega)]; exact h.c5⟩

set_option maxRecDepth 100000 in
theorem grp_room {B b : Nat} {g : Grp} {w : World} (h : GrpAt B b g w) (hl : g.ended.length ≤ 16) :
    Calls Tryd.prog 122 #[.pointer (some ⟨b, 0, none⟩)] w fun e w' => e = .returned (.int .i64 g.room) ∧ w' = w := by
  obtain ⟨v, h0, hown⟩ := h.row
  obtain ⟨a, cap, rfl, hn, -⟩ := own_form hown
  have c4 := h.c4
  unfold Grp.room
  generalize g.ended.length = n at *
  clear hown h hn
  cases hg : g.gapped with
  | true =>
    rw [hg] at c4
    go_enter Tryd.func122, Tryd.ntmps122
    go_wp2
    go_ret
    simp
  | false =>
    rw [hg] at c4
    go_enter Tryd.func122, Tryd.ntmps122
    go_wp2
    go_ret
    simp

theorem hexv_cases (r : Int) : (48 ≤ r ∧ r ≤ 57 ∧ hexv r = some (r - 48)) ∨ (97 ≤ r ∧ r ≤ 102 ∧ hexv r = some (r - 97 + 10)) ∨ (65 ≤ r ∧ r ≤ 70 ∧ hexv r = some (r - 65 + 10)) ∨
    (¬ (48 ≤ r ∧ r ≤ 57) ∧ ¬ (97 ≤ r ∧ r ≤ 102) ∧ ¬ (65 ≤ r ∧ r ≤ 70) ∧ hexv r = none) := by
  unfold hexv
  by_cases h1 : 48 ≤ r ∧ r ≤ 57
  · exact .inl ⟨h1.1, h1.2, if_pos h1⟩
  · by_cases h2 : 97 ≤ r ∧ r ≤ 102
    · exact .inr (.inl ⟨h2.1, h2.2, by rw [if_neg h1, if_pos h2]⟩)
    · by_cases h3 : 65 ≤ r ∧ r ≤ 70
      · exact .inr (.inr (.inl ⟨h3.1, h3.2, by rw [if_neg h1, if_neg h2, if_pos h3]⟩))
      · exact .inr (.inr (.inr ⟨h1, h2, h3, by rw [if_neg h1, if_neg h2, if_neg h3]⟩))

theorem hexv_lt {r x : Int} (h : hexv r = some x) : 0 ≤ x ∧ x < 16 ∧ 48 ≤ r ∧ r < 128 := by
  rcases hexv_cases r with ⟨a, b, c⟩ | ⟨a, b, c⟩ | ⟨a, b, c⟩ | ⟨a, b, c, d⟩
  · rw [c] at h; cases h; omega
  · rw [c] at h; cases h; omega
  · rw [c] at h; cases h; omega
  · rw [d] at h; cases h

set_option maxHeartbeats 2000000 in
set_option maxRecDepth 100000 in
theorem hex_calls (r : Int) (w : World) (hr : 0 ≤ r ∧ r < 2147483648) :
    Calls Tryd.prog 129 #[.int .i32 r] w fun e w' => e = .returned (.tuple #[.int .u16 ((hexv r).getD 0), .bool (hexv r).isSome]) ∧ w' = w := by
  rcases hexv_cases r with ⟨a, b, c⟩ | ⟨a, b, c⟩ | ⟨a, b, c⟩ | ⟨a, b, c, d⟩
  · rw [c]
    clear c
    go_enter Tryd.func129, Tryd.ntmps129
    go_wp2
    go_ret2
    exact ⟨rfl, rfl⟩
  · rw [c]
    clear c
    have h1 : decide (r ≤ 57) = false := by simp; omega
    go_enter Tryd.func129, Tryd.ntmps129
    go_wp2
    go_ret2
    exact ⟨rfl, rfl⟩
  · rw [c]
    clear c
    have h1 : decide (r ≤ 57) = false := by simp; omega
    have h2 : decide (97 ≤ r) = false := by simp; omega
    go_enter Tryd.func129, Tryd.ntmps129
    go_wp2
    go_ret2
    exact ⟨rfl, rfl⟩
  · rw [d]
    clear d
    go_enter Tryd.func129, Tryd.ntmps129
    go_wp2
    all_goals first
      | (exfalso; simp_all; done)
      | (exfalso; simp_all; omega)
      | (go_ret2; exact ⟨rfl, rfl⟩)
end Go.Proofs.YtlpbffcijhgelaaDoor
