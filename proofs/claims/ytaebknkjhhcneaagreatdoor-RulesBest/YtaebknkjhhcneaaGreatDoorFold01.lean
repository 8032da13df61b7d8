/-
  The methods of grouped but for addr.
  How grouped takes a letter.
  How grouped takes a colon, a dot, a letter.
  How grouped takes a dot.
-/
import Derived.Test.YtaebknkjhhcneaaGreatDoorFold00
import Derived.Laws.BitsAll
import Derived.Handy
namespace Go.Proofs.YtaebknkjhhcneaaGreatDoor
open Go Go.RowKit
set_option linter.unusedVariables false
set_option linter.unusedSimpArgs false

set_option maxRecDepth 100000 in
theorem dot_whole (d : Dot) (b o : Nat) (w : World) (hat : DotAt d w b o) :
    Calls Tryz.prog 234 #[.pointer (some ⟨b, o, none⟩)] w fun e w' => e = .returned (.bool d.whole) ∧ w' = w := by
  obtain ⟨c0, c1, c2, c3, c4, c5⟩ := hat
  obtain ⟨e0, e1, e2, cnt, ⟨v, g⟩⟩ := d
  dsimp only at *
  by_cases h3 : cnt = 3
  · subst h3
    go_enter Tryz.func234, Tryz.ntmps234
    go_wp2
    go_ret
    exact ⟨rfl, rfl⟩
  · have h4 : (cnt == 3) = false := by simpa using h3
    have h5 : Dot.whole ⟨e0, e1, e2, cnt, ⟨v, g⟩⟩ = false := by simp [Dot.whole, h3]
    rw [h5]
    go_enter Tryz.func234, Tryz.ntmps234
    go_wp2
    go_ret
    exact ⟨rfl, rfl⟩

/-- The cells of a grouped, and the row of its bytes. -/
structure GrpAt (B b : Nat) (g : Grp) (w : World) : Prop where
  typed : Typed w b 221
  hB : B ≤ b
  row : ∃ v, w.cell? ⟨b, 0, none⟩ = some v ∧ w.ownsRow B 5 1 v g.ended.length (g.ended.map (fun z => Value.int .u8 z))
  c1 : w.cell? ⟨b, 1, none⟩ = some (.string ⟨g.part.toArray⟩)
  c2 : w.cell? ⟨b, 2, none⟩ = some (.int .u16 g.value)
  c3 : w.cell? ⟨b, 3, none⟩ = some (.int .i64 g.colons)
  c4 : w.cell? ⟨b, 4, none⟩ = some (.bool g.gapped)
  c5 : w.cell? ⟨b, 5, none⟩ = some (.int .i64 g.gap)
  c6 : w.cell? ⟨b, 6, none⟩ = some (.bool g.dots)
  tail : DotAt g.tail w b 7

theorem GrpAt.size {B b : Nat} {g : Grp} {w : World} (h : GrpAt B b g w) : B ≤ w.heap.size := by
  obtain ⟨cs, hc⟩ := h.typed
  have := (Array.getElem?_eq_some_iff.1 hc).1
  have := h.hB
  omega

/-- The row of bytes does not lie in the block of the grouped itself. -/
theorem Typed.apart {B b n : Nat} {w : World} {v : Value} {xs : List Value} {t : TypeId} (h : Typed w b t) (ht : t ≠ 5) (hown : w.ownsRow B 5 1 v n xs) : v.ownBlock ≠ some b := by
  obtain ⟨cs, hc⟩ := h
  intro e
  rcases hown.2 with ⟨rfl, _⟩ | ⟨g, cap, cur, rfl, _, hg, _⟩
  · simp [Value.ownBlock] at e
  · simp only [Value.ownBlock, Option.some.injEq] at e
    subst e
    rw [hc] at hg
    injection hg with hg
    injection hg with _ hg
    exact ht hg

theorem own_wrote {B b o k n : Nat} {w w' : World} {v : Value} {xs : List Value} {t : TypeId} (h : Wrote b o k w w') (ht : Typed w b t) (hn : t ≠ 5) (hown : w.ownsRow B 5 1 v n xs) : w'.ownsRow B 5 1 v n xs := by
  have hap := ht.apart hn hown
  refine ⟨hown.1, hown.2.imp id ?_⟩
  rintro ⟨g, cap, cur, rfl, hb, hg, r⟩
  refine ⟨g, cap, cur, rfl, hb, ?_, r⟩
  rw [h.other g (fun e => hap (by simp [Value.ownBlock, e]))]
  exact hg

theorem DotAt.wrote {b o k p : Nat} {d : Dot} {w w' : World} (h : DotAt d w b p) (g : Wrote b o k w w') (hp : p + 6 ≤ o ∨ o + k ≤ p) : DotAt d w' b p :=
  ⟨by rw [g.cell _ (by omega)]; exact h.c0, by rw [g.cell _ (by omega)]; exact h.c1, by rw [g.cell _ (by omega)]; exact h.c2,
    by rw [g.cell _ (by omega)]; exact h.c3, by rw [g.cell _ (by omega)]; exact h.c4, by rw [g.cell _ (by omega)]; exact h.c5⟩

set_option maxRecDepth 100000 in
theorem grp_room {B b : Nat} {g : Grp} {w : World} (h : GrpAt B b g w) (hl : g.ended.length ≤ 16) :
    Calls Tryz.prog 226 #[.pointer (some ⟨b, 0, none⟩)] w fun e w' => e = .returned (.int .i64 g.room) ∧ w' = w := by
  obtain ⟨v, h0, hown⟩ := h.row
  obtain ⟨a, cap, rfl, hn, -⟩ := own_form hown
  have c4 := h.c4
  unfold Grp.room
  generalize g.ended.length = n at *
  clear hown h hn
  cases hg : g.gapped with
  | true =>
    rw [hg] at c4
    go_enter Tryz.func226, Tryz.ntmps226
    go_wp2
    go_ret
    simp
  | false =>
    rw [hg] at c4
    go_enter Tryz.func226, Tryz.ntmps226
    go_wp2
    go_ret
    simp

theorem hexv_cases (r : Int) : (48 ≤ r ∧ r ≤ 57 ∧ hexv r = some (r - 48)) ∨ (97 ≤ r ∧ r ≤ 102 ∧ hexv r = some (r - 97 + 10)) ∨ (65 ≤ r ∧ r ≤ 70 ∧ hexv r = some (r - 65 + 10)) ∨
    (¬ (48 ≤ r ∧ r ≤ 57) ∧ ¬ (97 ≤ r ∧ r ≤ 102) ∧ ¬ (65 ≤ r ∧ r ≤ 70) ∧ hexv r = none) := by
  unfold hexv
  by_cases h1 : 48 ≤ r ∧ r ≤ 57
  · exact .inl ⟨h1.1, h1.2, if_pos h1⟩
  · by_cases h2 : 97 ≤ r ∧ r ≤ 102
    · exact .inr (.inl ⟨h2.1, h2.2, by rw [if_neg h1, if_pos h2]⟩)
    · by_cases h3 : 65 ≤ r ∧ r ≤ 70
      · exact .inr (.inr (.inl ⟨h3.1, h3.2, by rw [if_neg h1, if_neg h2, if_pos h3]⟩))
      · exact .inr (.inr (.inr ⟨h1, h2, h3, by rw [if_neg h1, if_neg h2, if_neg h3]⟩))

theorem hexv_lt {r x : Int} (h : hexv r = some x) : 0 ≤ x ∧ x < 16 ∧ 48 ≤ r ∧ r < 128 := by
  rcases hexv_cases r with ⟨a, b, c⟩ | ⟨a, b, c⟩ | ⟨a, b, c⟩ | ⟨a, b, c, d⟩
  · rw [c] at h; cases h; omega
  · rw [c] at h; cases h; omega
  · rw [c] at h; cases h; omega
  · rw [d] at h; cases h

set_option maxHeartbeats 2000000 in
set_option maxRecDepth 100000 in
theorem hex_calls (r : Int) (w : World) (hr : 0 ≤ r ∧ r < 2147483648) :
    Calls Tryz.prog 236 #[.int .i32 r] w fun e w' => e = .returned (.tuple #[.int .u16 ((hexv r).getD 0), .bool (hexv r).isSome]) ∧ w' = w := by
  rcases hexv_cases r with ⟨a, b, c⟩ | ⟨a, b, c⟩ | ⟨a, b, c⟩ | ⟨a, b, c, d⟩
  · rw [c]
    clear c
    go_enter Tryz.func236, Tryz.ntmps236
    go_wp2
    go_ret2
    exact ⟨rfl, rfl⟩
  · rw [c]
    clear c
    have h1 : decide (r ≤ 57) = false := by simp; omega
    go_enter Tryz.func236, Tryz.ntmps236
    go_wp2
    go_ret2
    exact ⟨rfl, rfl⟩
  · rw [c]
    clear c
    have h1 : decide (r ≤ 57) = false := by simp; omega
    have h2 : decide (97 ≤ r) = false := by simp; omega
    go_enter Tryz.func236, Tryz.ntmps236
    go_wp2
    go_ret2
    exact ⟨rfl, rfl⟩
  · rw [d]
    clear d
    go_enter Tryz.func236, Tryz.ntmps236
    go_wp2
    all_goals first
      | (exfalso; simp_all; done)
      | (exfalso; simp_all; omega)
      | (go_ret2; exact ⟨rfl, rfl⟩)
end Go.Proofs.YtaebknkjhhcneaaGreatDoor

namespace Go.Proofs.YtaebknkjhhcneaaGreatDoor
open Go Go.RowKit
set_option linter.unusedVariables false
set_option linter.unusedSimpArgs false

/-- What is known of a grouped that came of letters. -/
structure Grp.Ok (g : Grp) : Prop where
  bytes : ∀ z ∈ g.ended, Byte z
  even : g.ended.length % 2 = 0
  part : g.part.length ≤ 4
  ascii : ∀ c ∈ g.part, c.toNat < 128
  value : 0 ≤ g.value ∧ g.value < 65536
  gap : 0 ≤ g.gap ∧ g.gap ≤ g.ended.length
  tail : g.tail.Ok
  most : g.ended.length + (if g.dots then 4 else if g.part = [] then 0 else 2) ≤ (if g.gapped then 14 else 16)
  full : g.dots = true → g.gapped = false → g.ended.length = 12
  colons : -3 ≤ g.colons ∧ g.colons ≤ 3
  ends : g.part = [] → g.dots = false → g.ended.length ≤ 14
  plain : g.dots = true → g.ended.length ≤ 12

theorem Grp.Ok.len {g : Grp} (h : g.Ok) : g.ended.length ≤ 16 := by
  have := h.most
  split at this <;> split at this <;> try split at this
  all_goals omega

def GrpTook (x : Option Grp) (B b : Nat) (w : World) (e : Ending) (w' : World) : Prop :=
  e = .returned (.bool x.isSome) ∧ Turns B (fun j => j = b) w w' ∧ ∀ g, x = some g → GrpAt B b g w'

/-- What a digit makes of the value. -/
theorem shl_or (v x : Int) (hv : 0 ≤ v ∧ v < 65536) (hx : 0 ≤ x ∧ x < 16) : bits .or .u16 (IntKind.u16.wrap (v * 16)) x = v * 16 % 65536 + x := by
  rw [IntKind.wrap_u16, u16_or _ _ (by omega) (by omega) (by omega) (by omega), nat_join 4 _ _ (by omega) (by omega)]
  omega

theorem encode_ascii {r : Int} (h0 : 48 ≤ r) (h1 : r < 128) : Utf8.encode r = ⟨#[UInt8.ofNat r.toNat]⟩ := by
  unfold Utf8.encode
  have hv : Utf8.valid r = true := by
    unfold Utf8.valid
    simp
    omega
  simp only [hv, if_true]
  rw [if_pos (by omega)]

theorem str_ne (l : List UInt8) (h : l ≠ []) : ((⟨l.toArray⟩ : ByteArray) == ⟨#[]⟩) = false := by
  cases l with
  | nil => exact absurd rfl h
  | cons c l => rfl

theorem str_bne (l : List UInt8) (h : l ≠ []) : ((⟨l.toArray⟩ : ByteArray) != ⟨#[]⟩) = true := by
  unfold bne
  rw [str_ne l h]
  rfl

set_option maxHeartbeats 2000000 in
set_option maxRecDepth 100000 in
theorem grp_whole {B b : Nat} {g : Grp} {w : World} (h : GrpAt B b g w) (hl : g.ended.length ≤ 16) :
    Calls Tryz.prog 228 #[.pointer (some ⟨b, 0, none⟩)] w fun e w' => e = .returned (.bool g.whole) ∧ w' = w := by
  have hR := grp_room h hl
  have hT := dot_whole g.tail b 7 w h.tail
  have c1 := h.c1
  have c3 := h.c3
  have c4 := h.c4
  have c6 := h.c6
  have hW : g.whole = if g.dots then g.tail.whole else if g.gapped then (if g.part = [] then g.colons == 2 else true) else (if g.part = [] then false else g.room == 2) := by
    unfold Grp.whole
    by_cases hp : g.part = [] <;> simp [hp] <;> rfl
  rw [hW]
  clear hW
  generalize g.tail.whole = tw at *
  generalize g.room = rm at *
  generalize g.colons = col at *
  clear h hl
  cases hd : g.dots with
  | true =>
    rw [hd] at c6
    go_enter Tryz.func228, Tryz.ntmps228
    go_wp2_with fail
    refine hT.mono ?_
    rintro e w' ⟨rfl, rfl⟩
    go_wp2
    go_ret
    simp
  | false =>
    rw [hd] at c6
    clear hT
    cases hg : g.gapped with
    | true =>
      rw [hg] at c4
      by_cases hp : g.part = []
      · rw [hp] at c1
        simp only [hp, if_true, if_false, Bool.false_eq_true]
        go_enter Tryz.func228, Tryz.ntmps228
        go_wp2
        go_ret
        exact ⟨rfl, rfl⟩
      · have q : g.part.isEmpty = false := by simpa using hp
        have q' := str_bne _ hp
        simp only [hp, if_true, if_false, Bool.false_eq_true]
        go_enter Tryz.func228, Tryz.ntmps228
        go_wp2
        go_ret
        exact ⟨rfl, rfl⟩
    | false =>
      rw [hg] at c4
      by_cases hp : g.part = []
      · rw [hp] at c1
        simp only [hp, if_true, if_false, Bool.false_eq_true]
        go_enter Tryz.func228, Tryz.ntmps228
        go_wp2
        go_ret
        exact ⟨rfl, rfl⟩
      · have q : g.part.isEmpty = false := by simpa using hp
        have q' := str_bne _ hp
        simp only [hp, if_true, if_false, Bool.false_eq_true]
        go_enter Tryz.func228, Tryz.ntmps228
        go_wp2_with fail
        refine hR.mono ?_
        rintro e w' ⟨rfl, rfl⟩
        go_wp2
        go_ret
        exact ⟨rfl, rfl⟩

theorem GrpAt.same {B b o k : Nat} {g g' : Grp} {w w' : World} (h : GrpAt B b g w) (hw : Wrote b o k w w') (ho : 1 ≤ o) (he : g'.ended = g.ended)
    (c1 : w'.cell? ⟨b, 1, none⟩ = some (.string ⟨g'.part.toArray⟩)) (c2 : w'.cell? ⟨b, 2, none⟩ = some (.int .u16 g'.value)) (c3 : w'.cell? ⟨b, 3, none⟩ = some (.int .i64 g'.colons))
    (c4 : w'.cell? ⟨b, 4, none⟩ = some (.bool g'.gapped)) (c5 : w'.cell? ⟨b, 5, none⟩ = some (.int .i64 g'.gap)) (c6 : w'.cell? ⟨b, 6, none⟩ = some (.bool g'.dots)) (ct : DotAt g'.tail w' b 7) : GrpAt B b g' w' := by
  obtain ⟨v, h0, hown⟩ := h.row
  exact ⟨h.typed.wrote hw, h.hB, ⟨v, by rw [hw.cell 0 (by omega)]; exact h0, by rw [he]; exact own_wrote hw h.typed (by decide) hown⟩, c1, c2, c3, c4, c5, c6, ct⟩

set_option maxHeartbeats 2000000 in
set_option maxRecDepth 100000 in
theorem grp_second {B b : Nat} {g : Grp} {w : World} (h : GrpAt B b g w) :
    Calls Tryz.prog 230 #[.pointer (some ⟨b, 0, none⟩)] w fun e w' => GrpTook g.second B b w e w' := by
  obtain ⟨v, h0, hown⟩ := h.row
  obtain ⟨a, cap, rfl, -, -⟩ := own_form hown
  have hf := h.typed.open
  have c1 := h.c1
  have c2 := h.c2
  have c3 := h.c3
  have c4 := h.c4
  have c5 := h.c5
  have c6 := h.c6
  have H : Hid _ := h
  clear hown h
  unfold Grp.second
  cases hg : g.gapped with
  | true =>
    rw [hg] at c4
    go_enter Tryz.func230, Tryz.ntmps230
    go_wp2
    go_ret
    exact ⟨rfl, Turns.refl _ _ _, fun g' hg' => by cases hg'⟩
  | false =>
    rw [hg] at c4
    by_cases hc : g.colons = 0
    · rw [hc] at c3
      simp only [hc, if_true, if_false, Bool.false_eq_true]
      go_enter Tryz.func230, Tryz.ntmps230
      go_wp2
      go_ret
      have hw : Wrote b 1 6 w (w.setCell ⟨b, 3, none⟩ (.int .i64 1)) := (Wrote.refl _ _ _ _).set (by omega) _
      refine ⟨rfl, hw.turns H.out.hB, fun g' hg' => ?_⟩
      cases hg'
      exact H.out.same hw (by omega) rfl (by go_cell) (by go_cell) (by go_cell) (by go_cell) (by go_cell) (by go_cell) (H.out.tail.wrote hw (by omega))
    · have q : (g.colons == 0) = false := by simpa using hc
      simp only [hc, if_true, if_false, Bool.false_eq_true]
      go_enter Tryz.func230, Tryz.ntmps230
      go_wp2
      go_ret
      have hw : Wrote b 1 6 w (((w.setCell ⟨b, 3, none⟩ (.int .i64 2)).setCell ⟨b, 4, none⟩ (.bool true)).setCell ⟨b, 5, none⟩ (.int .i64 g.ended.length)) := (((Wrote.refl _ _ _ _).set (by omega) _).set (by omega) _).set (by omega) _
      refine ⟨rfl, hw.turns H.out.hB, fun g' hg' => ?_⟩
      cases hg'
      exact H.out.same hw (by omega) rfl (by go_cell) (by go_cell) (by go_cell) (by go_cell) (by go_cell) (by go_cell) (H.out.tail.wrote hw (by omega))

set_option maxHeartbeats 4000000 in
set_option maxRecDepth 100000 in
theorem grp_digit {B b : Nat} {g : Grp} {w : World} {r : Int} (h : GrpAt B b g w) (hk : g.Ok) (hr : 0 ≤ r ∧ r < 2147483648) :
    Calls Tryz.prog 233 #[.pointer (some ⟨b, 0, none⟩), .int .i32 r] w fun e w' => GrpTook (g.digit r) B b w e w' := by
  have hR := grp_room h hk.len
  have hX := hex_calls r w hr
  obtain ⟨v, h0, hown⟩ := h.row
  obtain ⟨a, cap, rfl, -, -⟩ := own_form hown
  have hf := h.typed.open
  have c1 := h.c1
  have c2 := h.c2
  have c3 := h.c3
  have c4 := h.c4
  have c5 := h.c5
  have c6 := h.c6
  have H : Hid _ := h
  have hv := hk.value
  have hp4 := hk.part
  clear hown h
  unfold Grp.digit
  cases hh : hexv r with
  | none =>
    rw [hh] at hX
    go_enter Tryz.func233, Tryz.ntmps233
    go_wp2_with fail
    refine hX.mono ?_
    rintro e w' ⟨rfl, rfl⟩
    go_wp2_with fail
    all_goals go_ret
    all_goals exact ⟨rfl, Turns.refl _ _ _, fun g' hg' => by cases hg'⟩
  | some x =>
    rw [hh] at hX
    obtain ⟨hx0, hx1, hr0, hr1⟩ := hexv_lt hh
    dsimp only
    by_cases hno : g.lone = true ∨ g.room = 0 ∨ g.part.length = 4
    · rw [if_pos hno]
      generalize g.room = rm at *
      have HN : Hid _ := hno
      clear hno
      go_enter Tryz.func233, Tryz.ntmps233
      go_wp2_with fail
      refine hX.mono ?_
      rintro e w' ⟨rfl, rfl⟩
      clear hX
      go_wp2_with (go_at_call 226; refine hR.mono ?_; rintro e w1 ⟨rfl, rfl⟩)
      all_goals first
        | (go_ret; exact ⟨rfl, Turns.refl _ _ _, fun g' hg' => by cases hg'⟩)
        | (exfalso; have := HN.out; simp_all [Grp.lone]; done)
        | (exfalso; have := HN.out; simp_all [Grp.lone]; omega)
        | go_show
    · rw [if_neg hno]
      have hl : g.lone = false := by cases hq : g.lone with
        | false => rfl
        | true => exact absurd (.inl hq) hno
      have hm0 : (g.room == 0) = false := by simp; exact fun e => hno (.inr (.inl e))
      have hm4 : g.part.length < 4 := by have : ¬ g.part.length = 4 := fun e => hno (.inr (.inr e)); omega
      clear hno
      generalize g.room = rm at *
      have HN : Hid _ := hl
      have hz : ¬ 9223372036854775807 < g.part.length + (Utf8.encode r).size := by rw [encode_ascii hr0 hr1]; show ¬ 9223372036854775807 < g.part.length + 1; omega
      clear hl
      go_enter Tryz.func233, Tryz.ntmps233
      go_wp2_with fail
      refine hX.mono ?_
      rintro e w' ⟨rfl, rfl⟩
      clear hX
      go_wp2_with (go_at_call 226; refine hR.mono ?_; rintro e w1 ⟨rfl, rfl⟩)
      all_goals try (exfalso; have := HN.out; simp_all [Grp.lone]; done)
      all_goals clear hR
      all_goals
        go_region
        go_wp2
        go_ret
        have hw : Wrote b 1 6 w1 (((w1.setCell ⟨b, 1, none⟩ (.string (⟨g.part.toArray⟩ ++ Utf8.encode r))).setCell ⟨b, 2, none⟩ (.int .u16 (bits .or .u16 (IntKind.u16.wrap (g.value * 16)) x))).setCell ⟨b, 3, none⟩ (.int .i64 0)).drew := ((((Wrote.refl _ _ _ _).set (by omega) _).set (by omega) _).set (by omega) _).drew
        refine ⟨rfl, hw.turns H.out.hB, fun g' hg' => ?_⟩
        cases hg'
        have k1 : ((⟨g.part.toArray⟩ : ByteArray) ++ Utf8.encode r) = ⟨(g.part ++ [UInt8.ofNat r.toNat]).toArray⟩ := by
          rw [encode_ascii hr0 hr1]
          apply ByteArray.ext
          simp
        refine H.out.same hw (by omega) rfl ?_ ?_ (by go_cell) (by go_cell) (by go_cell) (by go_cell) (H.out.tail.wrote hw (by omega))
        · rw [← k1]; go_cell
        · rw [shl_or _ _ hv ⟨hx0, hx1⟩]; go_cell

end Go.Proofs.YtaebknkjhhcneaaGreatDoor

namespace Go.Proofs.YtaebknkjhhcneaaGreatDoor
open Go Go.RowKit
set_option linter.unusedVariables false
set_option linter.unusedSimpArgs false

/-- Behind the append: the longer row; the grouped itself stands. -/
structure Mid (B b : Nat) (g : Grp) (w : World) (v : Value) (X : World) : Prop where
  own : X.ownsRow B 5 1 v (g.ended.length + 2) ((g.ended ++ [g.value / 256, g.value % 256]).map (fun z => Value.int .u8 z))
  turns : Turns B (fun j => j = b) w X
  typed : Typed X b 221
  cells : ∀ i, X.cell? ⟨b, i, none⟩ = w.cell? ⟨b, i, none⟩

theorem mid_of {B b : Nat} {g : Grp} {w : World} {v0 : Value} (h : GrpAt B b g w) (hk : g.Ok) (hrow : w.ownsRow B 5 1 v0 g.ended.length (g.ended.map (fun z => Value.int .u8 z))) (ty : TypeId) (arr : Array Value) (harr : arr = #[.int .u8 (g.value / 256), .int .u8 (g.value % 256)]) :
    ∃ v X, (Builtin.append_ #[127, 127] ty #[v0, .slice (some ⟨w.heap.size, 0, none⟩) 2 2]).run Tryz.prog (w.alloc (.cells arr 5)) = .ok v X ∧ Mid B b g w v X := by
  subst harr
  have hl := hk.len
  obtain ⟨v, X, hrun, hown, hgr, -⟩ := own_lit elem_u8 hrow h.size (by omega) (by decide) [.int .u8 (g.value / 256), .int .u8 (g.value % 256)] 2 rfl (by decide) (by simp [Value.oneCell']) ty _ rfl
  have hap := h.typed.apart (by decide) hrow
  obtain ⟨cs, hcs⟩ := h.typed
  have hlt := (Array.getElem?_eq_some_iff.1 hcs).1
  have hb : X.heap[b]? = w.heap[b]? := hgr.block b hlt (fun e => hap e.symm)
  refine ⟨v, X, hrun, by simpa using hown, (Turns.refl _ _ _).grown hrow hgr h.size, ⟨cs, hb.trans hcs⟩, fun i => World.cell?_of_block (a := ⟨b, i, none⟩) hb⟩

theorem GrpAt.drew {B b : Nat} {g : Grp} {w : World} (h : GrpAt B b g w) : GrpAt B b g w.drew :=
  ⟨h.typed, h.hB, h.row, h.c1, h.c2, h.c3, h.c4, h.c5, h.c6, ⟨h.tail.c0, h.tail.c1, h.tail.c2, h.tail.c3, h.tail.c4, h.tail.c5⟩⟩

theorem mid_drew {B b : Nat} {g : Grp} {w : World} {v0 : Value} (h : GrpAt B b g w) (hk : g.Ok) (hrow : w.ownsRow B 5 1 v0 g.ended.length (g.ended.map (fun z => Value.int .u8 z))) (ty : TypeId) :
    ∃ v X, (Builtin.append_ #[127, 127] ty #[v0, .slice (some ⟨w.heap.size, 0, none⟩) 2 2]).run Tryz.prog ((w.alloc (.cells #[.int .u8 (IntKind.u8.wrap (g.value / 256)), .int .u8 (IntKind.u8.wrap g.value)] 5)).drew) = .ok v X ∧ Mid B b g w v X := by
  have hv := hk.value
  obtain ⟨v, X, h1, h2⟩ := mid_of h.drew hk (v0 := v0) hrow ty #[.int .u8 (IntKind.u8.wrap (g.value / 256)), .int .u8 (IntKind.u8.wrap g.value)] (by
    rw [IntKind.wrap_u8, IntKind.wrap_u8, Int.emod_eq_of_lt (a := g.value / 256) (by omega) (by omega)])
  exact ⟨v, X, h1, h2.own, ⟨⟨h2.turns.below.os, h2.turns.below.tape, h2.turns.below.output, h2.turns.below.size, h2.turns.below.block⟩, h2.turns.kept⟩, h2.typed, h2.cells⟩

set_option maxHeartbeats 4000000 in
set_option maxRecDepth 100000 in
theorem grp_colon {B b : Nat} {g : Grp} {w : World} (h : GrpAt B b g w) (hk : g.Ok) :
    Calls Tryz.prog 231 #[.pointer (some ⟨b, 0, none⟩)] w fun e w' => GrpTook g.colon B b w e w' := by
  have hR := grp_room h hk.len
  obtain ⟨v, h0, hown⟩ := h.row
  obtain ⟨a, cap, rfl, -, -⟩ := own_form hown
  have hf := h.typed.open
  have c1 := h.c1
  have c2 := h.c2
  have c3 := h.c3
  have H : Hid _ := h
  have hv := hk.value
  have HO : Hid _ := hown
  clear hown h
  unfold Grp.colon
  by_cases hno : g.room ≤ 2
  · rw [if_pos hno]
    generalize g.room = rm at *
    go_enter Tryz.func231, Tryz.ntmps231
    go_wp2_with fail
    refine hR.mono ?_
    rintro e w' ⟨rfl, rfl⟩
    go_wp2
    go_ret
    exact ⟨rfl, Turns.refl _ _ _, fun g' hg' => by cases hg'⟩
  · rw [if_neg hno]
    have hno' : decide (g.room ≤ 2) = false := by simpa using hno
    generalize g.room = rm at *
    go_enter Tryz.func231, Tryz.ntmps231
    go_wp2_with fail
    refine hR.mono ?_
    rintro e w' ⟨rfl, rfl⟩
    clear hR
    have ha : ∀ o, (w'.alloc o).cell? ⟨b, 0, none⟩ = some (.slice a g.ended.length cap) := fun o => (World.cell?_of_block (a := ⟨b, 0, none⟩) (Below.heap_alloc w' o b (World.block_lt_of_cell? w' _ h0))).trans h0
    have ha2 : ∀ o, (w'.alloc o).cell? ⟨b, 2, none⟩ = some (.int .u16 g.value) := fun o => (World.cell?_of_block (a := ⟨b, 2, none⟩) (Below.heap_alloc w' o b (World.block_lt_of_cell? w' _ c2))).trans c2
    go_wp2
    go_region_law (refine step_append_ex rfl _ _ _ _ rfl rfl rfl (mid_drew H.out hk HO.out _) ?_; intro v1 X1 hM; obtain ⟨a1, cap1, rfl, -, -⟩ := own_form hM.own; have x0 := (hM.cells 0).trans h0; have x1 := (hM.cells 1).trans c1; have x2 := (hM.cells 2).trans c2; have x3 := (hM.cells 3).trans c3; have xf := hM.typed.open)
    all_goals
      go_wp2
      go_ret
      have hw : Wrote b 0 7 X1 ((((X1.setCell ⟨b, 0, none⟩ (.slice a1 (g.ended.length + 2) cap1)).setCell ⟨b, 1, none⟩ (.string ⟨#[]⟩)).setCell ⟨b, 2, none⟩ (.int .u16 0)).setCell ⟨b, 3, none⟩ (.int .i64 1)) := ((((Wrote.refl _ _ _ _).set (by omega) _).set (by omega) _).set (by omega) _).set (by omega) _
      refine ⟨rfl, hM.turns.trans (hw.turns H.out.hB), fun g' hg' => ?_⟩
      cases hg'
      have x4 := (hM.cells 4).trans H.out.c4
      have x5 := (hM.cells 5).trans H.out.c5
      have x6 := (hM.cells 6).trans H.out.c6
      have ht : DotAt g.tail X1 b 7 := by
        obtain ⟨t0, t1, t2, t3, t4, t5⟩ := H.out.tail
        exact ⟨(hM.cells _).trans t0, (hM.cells _).trans t1, (hM.cells _).trans t2, (hM.cells _).trans t3, (hM.cells _).trans t4, (hM.cells _).trans t5⟩
      refine ⟨hM.typed.wrote hw, H.out.hB, ⟨_, by go_cell, ?_⟩, by go_cell, by go_cell, by go_cell, by go_cell, by go_cell, by go_cell, ht.wrote hw (by omega)⟩
      have := own_wrote hw hM.typed (by decide) hM.own
      simpa using this

end Go.Proofs.YtaebknkjhhcneaaGreatDoor

namespace Go.Proofs.YtaebknkjhhcneaaGreatDoor
open Go Go.RowKit
set_option linter.unusedVariables false
set_option linter.unusedSimpArgs false

/-- In a loop over the digits: the tail turns and the iterator, nothing else. -/
structure Loop7 (b k : Nat) (w wr : World) : Prop where
  os : wr.os = w.os
  tape : wr.tape = w.tape
  output : wr.output = w.output
  size : wr.heap.size = w.heap.size
  other : ∀ j, j ≠ b → j ≠ k → wr.heap[j]? = w.heap[j]?
  typed : ∀ cs t fz, w.heap[b]? = some (.cells cs t fz) → ∃ cs', wr.heap[b]? = some (.cells cs' t fz)
  cell : ∀ i, i < 7 → wr.cell? ⟨b, i, none⟩ = w.cell? ⟨b, i, none⟩

theorem Loop7.refl (b k : Nat) (w : World) : Loop7 b k w w := ⟨rfl, rfl, rfl, rfl, fun _ _ _ => rfl, fun cs _ _ h => ⟨cs, h⟩, fun _ _ => rfl⟩
theorem Loop7.wrote {b k : Nat} {w u v : World} (h : Loop7 b k w u) (g : Wrote b 7 6 u v) : Loop7 b k w v :=
  ⟨g.os.trans h.os, g.tape.trans h.tape, g.output.trans h.output, g.size.trans h.size, fun j hj hk => (g.other j hj).trans (h.other j hj hk),
    fun cs t fz hc => by obtain ⟨c2, h2⟩ := h.typed cs t fz hc; exact g.typed c2 t fz h2, fun i hi => (g.cell i (by omega)).trans (h.cell i hi)⟩
theorem Loop7.iterAt {b k : Nat} {w u : World} (h : Loop7 b k w u) (hbk : b ≠ k) (s : ByteArray) (pos : Nat) : Loop7 b k w (u.iterAt k s pos) :=
  ⟨h.os, h.tape, h.output, (Lib.iterAt_size _ _ _ _).trans h.size, fun j hj hk => (Lib.iterAt_other u k j s pos hk).trans (h.other j hj hk),
    fun cs t fz hc => by obtain ⟨c2, h2⟩ := h.typed cs t fz hc; exact ⟨c2, (Lib.iterAt_other u k b s pos hbk).trans h2⟩,
    fun i hi => (World.cell?_of_block (a := ⟨b, i, none⟩) (Lib.iterAt_other u k b s pos hbk)).trans (h.cell i hi)⟩

theorem DotAt.iterAt {b k p : Nat} {d : Dot} {u : World} (h : DotAt d u b p) (hbk : b ≠ k) (s : ByteArray) (pos : Nat) : DotAt d (u.iterAt k s pos) b p := by
  have e := fun i => World.cell?_of_block (a := ⟨b, i, none⟩) (Lib.iterAt_other u k b s pos hbk)
  exact ⟨(e _).trans h.c0, (e _).trans h.c1, (e _).trans h.c2, (e _).trans h.c3, (e _).trans h.c4, (e _).trans h.c5⟩

theorem DotAt.alloc {b p : Nat} {d : Dot} {u : World} (h : DotAt d u b p) (o : Obj) : DotAt d (u.alloc o) b p := by
  have e := fun i => World.cell?_of_block (a := ⟨b, i, none⟩) (Below.heap_alloc u o b (World.block_lt_of_cell? u _ h.c0))
  exact ⟨(e _).trans h.c0, (e _).trans h.c1, (e _).trans h.c2, (e _).trans h.c3, (e _).trans h.c4, (e _).trans h.c5⟩

theorem Loop7.old {b : Nat} {w W : World} {o : Obj} (h : Loop7 b w.heap.size (w.alloc o) W) {j : Nat} (hj : j ≠ b) (hlt : j < w.heap.size) : W.heap[j]? = w.heap[j]? :=
  (h.other j hj (by omega)).trans (Below.heap_alloc w o j hlt)

theorem Loop7.turns {B b : Nat} {w W : World} {o : Obj} (h : Loop7 b w.heap.size (w.alloc o) W) (hB : B ≤ b) (hb : b < w.heap.size) : Turns B (fun j => j = b) w W :=
  ⟨⟨h.os, h.tape, h.output, by rw [h.size]; simp, fun j hj => h.old (by omega) (by omega)⟩, fun j x hj hn _ => (h.old hn (Array.getElem?_eq_some_iff.1 hj).1).trans hj⟩

set_option maxHeartbeats 4000000 in
set_option maxRecDepth 100000 in
theorem grp_dot {B b : Nat} {g : Grp} {w : World} (h : GrpAt B b g w) (hk : g.Ok) (hnd : g.dots = false) :
    Calls Tryz.prog 232 #[.pointer (some ⟨b, 0, none⟩)] w fun e w' => GrpTook g.dot B b w e w' := by
  have hR := grp_room h hk.len
  obtain ⟨v, h0, hown⟩ := h.row
  have hf := h.typed.open
  have c1 := h.c1
  have c4 := h.c4
  have c6 := h.c6
  have H : Hid _ := h
  have HO : Hid _ := hown
  clear hown h
  unfold Grp.dot
  by_cases hno : g.room < 4 ∨ (g.gapped = false ∧ 4 < g.room)
  · rw [if_pos hno]
    generalize g.room = rm at *
    have HN : Hid _ := hno
    clear hno
    go_enter Tryz.func232, Tryz.ntmps232
    go_wp2_with (go_at_call 226; refine hR.mono ?_; rintro e w1 ⟨rfl, rfl⟩)
    all_goals first
      | (go_ret; exact ⟨rfl, Turns.refl _ _ _, fun g' hg' => by cases hg'⟩)
      | (exfalso; have := HN.out; simp_all; done)
      | (exfalso; have := HN.out; simp_all; omega)
      | go_show
  · rw [if_neg hno]
    have hr4 : decide (g.room < 4) = false := by simp; omega
    have hr5 : g.gapped = false → g.room = 4 := by intro e; have h6 : ¬ 4 < g.room := fun x => hno (.inr ⟨e, x⟩); have h7 : ¬ g.room < 4 := fun x => hno (.inl x); omega
    clear hno
    have hq : (!g.gapped && decide (4 < g.room)) = false := by
      cases hg : g.gapped with
      | true => rfl
      | false => simp; have := hr5 hg; omega
    generalize g.room = rm at *
    go_enter Tryz.func232, Tryz.ntmps232
    go_wp2_with (go_at_call 226; refine hR.mono ?_; rintro e w1 ⟨rfl, rfl⟩)
    all_goals
      clear hR hr4 hr5 hq
      have hat := H.out.tail
      have hlt : b < w1.heap.size := World.block_lt_of_cell? w1 _ c1
      have hbk : b ≠ w1.heap.size := by omega
      have hs0 : (⟨g.part.toArray⟩ : ByteArray).size = g.part.length := by simp [ByteArray.size]
      go_loopw [] (fun wr => ∃ (pos : Nat) (d : Dot), pos ≤ g.part.length ∧ wr.heap[w1.heap.size]? = some (.stringIter ⟨g.part.toArray⟩ pos) ∧ Loop7 b w1.heap.size (w1.iter ⟨g.part.toArray⟩ 0) wr ∧ DotAt d wr b 7 ∧ d.Ok ∧ g.tail.takes g.part = d.takes (g.part.drop pos))
        (fun wr => g.part.length - wr.iterPos w1.heap.size)
      case atStart =>
        exact ⟨0, g.tail, Nat.zero_le _, World.iter_heap _ _ _, Loop7.refl _ _ _, hat.alloc _, hk.tail, rfl⟩
      case round =>
        obtain ⟨pos, d, hps, hit, hL, hD, hdk, htk⟩ := hrel
        have HT : Hid _ := htk
        clear htk
        have hTy : Typed wr b 221 := by
          obtain ⟨cs, hcs⟩ := H.out.typed
          exact hL.typed cs _ _ ((Below.heap_alloc w1 _ b hlt).trans hcs)
        have hmu : wr.iterPos w1.heap.size = pos := by simp [World.iterPos, hit]
        by_cases hp : pos < g.part.length
        · have hp' : pos < (⟨g.part.toArray⟩ : ByteArray).size := by rw [hs0]; exact hp
          have hch : ((⟨g.part.toArray⟩ : ByteArray)[pos]'hp') = g.part[pos] := by simp [ByteArray.getElem_eq_getElem_data]
          have h128 : ((⟨g.part.toArray⟩ : ByteArray)[pos]'hp').toNat < 128 := by rw [hch]; exact hk.ascii _ (List.getElem_mem _)
          have hnext : ∀ ty, (Instr.next (.pointer (some ⟨w1.heap.size, 0, none⟩)) true ty).run Tryz.prog wr = _ := fun ty => Lib.run_next_ascii_at wr w1.heap.size ⟨g.part.toArray⟩ pos ty hit hp' h128
          have hit1 := Lib.iterAt_heap wr w1.heap.size ⟨g.part.toArray⟩ pos (pos + 1) hit
          have hL1 := hL.iterAt hbk ⟨g.part.toArray⟩ (pos + 1)
          have hD1 := hD.iterAt hbk ⟨g.part.toArray⟩ (pos + 1)
          have hTy1 : Typed (wr.iterAt w1.heap.size ⟨g.part.toArray⟩ (pos + 1)) b 221 := by
            obtain ⟨cs, hcs⟩ := hTy
            exact ⟨cs, (Lib.iterAt_other wr _ b _ _ hbk).trans hcs⟩
          rw [hch] at hnext h128
          generalize hc : g.part[pos] = c at hnext h128
          have hdrop : g.part.drop pos = c :: g.part.drop (pos + 1) := by rw [← hc]; exact List.drop_eq_getElem_cons hp
          rw [hdrop] at HT
          clear hch hdrop
          have HC : Hid _ := hc
          clear hc
          generalize wr.iterAt w1.heap.size ⟨g.part.toArray⟩ (pos + 1) = W1 at hnext hit1 hL1 hD1 hTy1
          have hCall := dot_take d c.toNat b 7 W1 hdk (by omega) hD1 hTy1.open
          go_wp2_with fail
          refine hCall.mono ?_
          rintro e W2 ⟨rfl, hW, hsome⟩
          clear hCall
          cases hx : d.take c.toNat with
          | none =>
            go_wp2
            go_ret
            have hbad : g.tail.takes g.part = none := by rw [HT.out]; simp [Dot.takes, hx]
            rw [hbad]
            exact ⟨rfl, (hL1.wrote hW).turns H.out.hB hlt, fun g' hg' => by cases hg'⟩
          | some d' =>
            have hD2 := hsome d' hx
            have hit2 := (hW.other _ (Ne.symm hbk)).trans hit1
            go_wp2
            go_roundw
            case rel =>
              refine ⟨pos + 1, d', by omega, hit2, hL1.wrote hW, hD2, Dot.take_ok hx hdk, ?_⟩
              rw [HT.out]
              simp [Dot.takes, hx]
            case measure =>
              have hmu2 : W2.iterPos w1.heap.size = pos + 1 := by simp [World.iterPos, hit2]
              rw [hmu, hmu2]
              omega
        · have hnext : ∀ ty, (Instr.next (.pointer (some ⟨w1.heap.size, 0, none⟩)) true ty).run Tryz.prog wr = _ := fun ty => Lib.run_next_end_at wr w1.heap.size ⟨g.part.toArray⟩ pos ty hit (by rw [hs0]; exact hp)
          have hend : g.part.drop pos = [] := List.drop_eq_nil_of_le (by omega)
          rw [hend] at HT
          have hc6 : wr.cell? ⟨b, 6, none⟩ = some (.bool g.dots) := (hL.cell 6 (by omega)).trans ((World.cell?_of_block (a := ⟨b, 6, none⟩) (Below.heap_alloc w1 _ b hlt)).trans c6)
          have hfr := hTy.open
          have hw6 : Wrote b 0 7 wr (wr.setCell ⟨b, 6, none⟩ (.bool true)) := (Wrote.refl _ _ _ _).set (by omega) _
          have hCall := dot_take d 46 b 7 (wr.setCell ⟨b, 6, none⟩ (.bool true)) hdk (by decide) (hD.wrote hw6 (by omega)) (hTy.wrote hw6).open
          go_wp2_with fail
          refine hCall.mono ?_
          rintro e W2 ⟨rfl, hW, hsome⟩
          clear hCall
          go_wp2
          go_ret
          have hgood : g.tail.takes g.part = some d := by rw [HT.out]; rfl
          rw [hgood]
          refine ⟨by simp, ((hL.turns H.out.hB hlt).trans (hw6.turns H.out.hB)).trans (hW.turns H.out.hB), fun g' hg' => ?_⟩
          cases hx : d.take 46 with
          | none => simp [hx] at hg'
          | some d' =>
            simp only [Option.bind_some, hx, Option.map_some, Option.some.injEq] at hg'
            subst hg'
            have hcell : ∀ i, i < 6 → W2.cell? ⟨b, i, none⟩ = w1.cell? ⟨b, i, none⟩ := fun i hi => by
              rw [hW.cell i (by omega), World.cell?_setCell_other _ _ _ _ (fun e => by injection e with _ e _; omega), hL.cell i (by omega)]
              exact World.cell?_of_block (a := ⟨b, i, none⟩) (Below.heap_alloc w1 _ b hlt)
            have h6 : W2.cell? ⟨b, 6, none⟩ = some (.bool true) := by rw [hW.cell 6 (by omega)]; go_cell
            refine ⟨(hTy.wrote hw6).wrote hW, H.out.hB, ⟨v, (hcell 0 (by omega)).trans h0, ?_⟩, (hcell 1 (by omega)).trans H.out.c1, (hcell 2 (by omega)).trans H.out.c2, (hcell 3 (by omega)).trans H.out.c3,
              (hcell 4 (by omega)).trans H.out.c4, (hcell 5 (by omega)).trans H.out.c5, h6, hsome d' hx⟩
            have hap := H.out.typed.apart (by decide) HO.out
            refine ⟨HO.out.1, HO.out.2.imp id ?_⟩
            rintro ⟨q, cap, cur, rfl, hbq, hq, r⟩
            have hne : q ≠ b := fun e => hap (by simp [Value.ownBlock, e])
            refine ⟨q, cap, cur, rfl, hbq, ?_, r⟩
            rw [hW.other q hne, hw6.other q hne, hL.old hne (Array.getElem?_eq_some_iff.1 hq).1]
            exact hq

end Go.Proofs.YtaebknkjhhcneaaGreatDoor
