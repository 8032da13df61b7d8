/-
  How grouped takes a letter.
-/
import Derived.Test.YtlpbffcijhgelaaDoorAddrGrp
import Derived.Handy
namespace Go.Proofs.YtlpbffcijhgelaaDoor
open Go Go.RowKit
set_option linter.unusedVariables false
set_option linter.unusedSimpArgs false

/-- What is known of a grouped that came of letters. -/
structure Grp.Ok (g : Grp) : Prop where
  bytes : ∀ z ∈ g.ended, Byte z
  even : g.ended.length % 2 = 0
  part : g.part.length ≤ 4
  ascii : ∀ c ∈ g.part, c.toNat < 128
  value : 0 ≤ g.value ∧ g.value < 65536
  gap : 0 ≤ g.gap ∧ g.gap ≤ g.ended.length
  tail : g.tail.Ok
  most : g.ended.length + (if g.dots then 4 else if g.part = [] then 0 else 2) ≤ (if g.gapped then 14 else 16)
  full : g.dots = true → g.gapped = false → g.ended.length = 12
  colons : -3 ≤ g.colons ∧ g.colons ≤ 3
  ends : g.part = [] → g.dots = false → g.ended.length ≤ 14
  plain : g.dots = true → g.ended.length ≤ 12

theorem Grp.Ok.len {g : Grp} (h : g.Ok) : g.ended.length ≤ 16 := by
  have := h.most
  split at this <;> split at this <;> try split at this
  all_goals omega

def GrpTook (x : Option Grp) (B b : Nat) (w : World) (e : Ending) (w' : World) : Prop :=
  e = .returned (.bool x.isSome) ∧ Turns B (fun j => j = b) w w' ∧ ∀ g, x = some g → GrpAt B b g w'

/-- What a digit makes of the value. -/
theorem shl_or (v x : Int) (hv : 0 ≤ v ∧ v < 65536) (hx : 0 ≤ x ∧ x < 16) : bits .or .u16 (IntKind.u16.wrap (v * 16)) x = v * 16 % 65536 + x := by
  rw [IntKind.wrap_u16, u16_or _ _ (by omega) (by omega) (by omega) (by omega), nat_join 4 _ _ (by omega) (by omega)]
  omega

theorem encode_ascii {r : Int} (h0 : 48 ≤ r) (h1 : r < 128) : Utf8.encode r = ⟨#[UInt8.ofNat r.toNat]⟩ := by
  unfold Utf8.encode
  have hv : Utf8.valid r = true := by
    unfold Utf8.valid
    simp
    omega
  simp only [hv, if_true]
  rw [if_pos (by omega)]

theorem str_ne (l : List UInt8) (h : l ≠ []) : ((⟨l.toArray⟩ : ByteArray) == ⟨#[]⟩) = false := by
  cases l with
  | nil => exact absurd rfl h
  | cons c l => rfl

theorem str_bne (l : List UInt8) (h : l ≠ []) : ((⟨l.toArray⟩ : ByteArray) != ⟨#[]⟩) = true := by
  unfold bne
  rw [str_ne l h]
  rfl

set_option maxHeartbeats 2000000 in
set_option maxRecDepth 100000 in
theorem grp_whole {B b : Nat} {g : Grp} {w : World} (h : GrpAt B b g w) (hl : g.ended.length ≤ 16) :
    Calls Tryd.prog 124 #[.pointer (some ⟨b, 0, none⟩)] w fun e w' => e = .returned (.bool g.whole) ∧ w' = w := by
  have hR := grp_room h hl
  have hT := dot_whole g.tail b 7 w h.tail
  have c1 := h.c1
  have c3 := h.c3
  have c4 := h.c4
  have c6 := h.c6
  have hW : g.whole = if g.dots then g.tail.whole else if g.gapped then (if g.part = [] then g.colons == 2 else true) else (if g.part = [] then false else g.room == 2) := by
    unfold Grp.whole
    by_cases hp : g.part = [] <;> simp [hp] <;> rfl
  rw [hW]
  clear hW
  generalize g.tail.whole = tw at *
  generalize g.room = rm at *
  generalize g.colons = col at *
  clear h hl
  cases hd : g.dots with
  | true =>
    rw [hd] at c6
    go_enter Tryd.func124, Tryd.ntmps124
    go_wp2_with fail
    refine hT.mono ?_
    rintro e w' ⟨rfl, rfl⟩
    go_wp2
    go_ret
    simp
  | false =>
    rw [hd] at c6
    clear hT
    cases hg : g.gapped with
    | true =>
      rw [hg] at c4
      by_cases hp : g.part = []
      · rw [hp] at c1
        simp only [hp, if_true, if_false, Bool.false_eq_true]
        go_enter Tryd.func124, Tryd.ntmps124
        go_wp2
        go_ret
        exact ⟨rfl, rfl⟩
      · have q : g.part.isEmpty = false := by simpa using hp
        have q' := str_bne _ hp
        simp only [hp, if_true, if_false, Bool.false_eq_true]
        go_enter Tryd.func124, Tryd.ntmps124
        go_wp2
        go_ret
        exact ⟨rfl, rfl⟩
    | false =>
      rw [hg] at c4
      by_cases hp : g.part = []
      · rw [hp] at c1
        simp only [hp, if_true, if_false, Bool.false_eq_true]
        go_enter Tryd.func124, Tryd.ntmps124
        go_wp2
        go_ret
        exact ⟨rfl, rfl⟩
      · have q : g.part.isEmpty = false := by simpa using hp
        have q' := str_bne _ hp
        simp only [hp, if_true, if_false, Bool.false_eq_true]
        go_enter Tryd.func124, Tryd.ntmps124
        go_wp2_with fail
        refine hR.mono ?_
        rintro e w' ⟨rfl, rfl⟩
        go_wp2
        go_ret
        exact ⟨rfl, rfl⟩

theorem GrpAt.same {B b o k : Nat} {g g' : Grp} {w w' : World} (h : GrpAt B b g w) (hw : Wrote b o k w w') (ho : 1 ≤ o) (he : g'.ended = g.ended)
    (c1 : w'.cell? ⟨b, 1, none⟩ = some (.string ⟨g'.part.toArray⟩)) (c2 : w'.cell? ⟨b, 2, none⟩ = some (.int .u16 g'.value)) (c3 : w'.cell? ⟨b, 3, none⟩ = some (.int .i64 g'.colons))
    (c4 : w'.cell? ⟨b, 4, none⟩ = some (.bool g'.gapped)) (c5 : w'.cell? ⟨b, 5, none⟩ = some (.int .i64 g'.gap)) (c6 : w'.cell? ⟨b, 6, none⟩ = some (.bool g'.dots)) (ct : DotAt g'.tail w' b 7) : GrpAt B b g' w' := by
  obtain ⟨v, h0, hown⟩ := h.row
  exact ⟨h.typed.wrote hw, h.hB, ⟨v, by rw [hw.cell 0 (by omega)]; exact h0, by rw [he]; exact own_wrote hw h.typed (by decide) hown⟩, c1, c2, c3, c4, c5, c6, ct⟩

set_option maxHeartbeats 2000000 in
set_option maxRecDepth 100000 in
theorem grp_second {B b : Nat} {g : Grp} {w : World} (h : GrpAt B b g w) :
    Calls Tryd.prog 125 #[.pointer (some ⟨b, 0, none⟩)] w fun e w' => GrpTook g.second B b w e w' := by
  obtain ⟨v, h0, hown⟩ := h.row
  obtain ⟨a, cap, rfl, -, -⟩ := own_form hown
  have hf := h.typed.open
  have c1 := h.c1
  have c2 := h.c2
  have c3 := h.c3
  have c4 := h.c4
  have c5 := h.c5
  have c6 := h.c6
  have H : Hid _ := h
  clear hown h
  unfold Grp.second
  cases hg : g.gapped with
  | true =>
    rw [hg] at c4
    go_enter Tryd.func125, Tryd.ntmps125
    go_wp2
    go_ret
    exact ⟨rfl, Turns.refl _ _ _, fun g' hg' => by cases hg'⟩
  | false =>
    rw [hg] at c4
    by_cases hc : g.colons = 0
    · rw [hc] at c3
      simp only [hc, if_true, if_false, Bool.false_eq_true]
      go_enter Tryd.func125, Tryd.ntmps125
      go_wp2
      go_ret
      have hw : Wrote b 1 6 w (w.setCell ⟨b, 3, none⟩ (.int .i64 1)) := (Wrote.refl _ _ _ _).set (by omega) _
      refine ⟨rfl, hw.turns H.out.hB, fun g' hg' => ?_⟩
      cases hg'
      exact H.out.same hw (by omega) rfl (by go_cell) (by go_cell) (by go_cell) (by go_cell) (by go_cell) (by go_cell) (H.out.tail.wrote hw (by omega))
    · have q : (g.colons == 0) = false := by simpa using hc
      simp only [hc, if_true, if_false, Bool.false_eq_true]
      go_enter Tryd.func125, Tryd.ntmps125
      go_wp2
      go_ret
      have hw : Wrote b 1 6 w (((w.setCell ⟨b, 3, none⟩ (.int .i64 2)).setCell ⟨b, 4, none⟩ (.bool true)).setCell ⟨b, 5, none⟩ (.int .i64 g.ended.length)) := (((Wrote.refl _ _ _ _).set (by omega) _).set (by omega) _).set (by omega) _
      refine ⟨rfl, hw.turns H.out.hB, fun g' hg' => ?_⟩
      cases hg'
      exact H.out.same hw (by omega) rfl (by go_cell) (by go_cell) (by go_cell) (by go_cell) (by go_cell) (by go_cell) (H.out.tail.wrote hw (by omega))

set_option maxHeartbeats 4000000 in
set_option maxRecDepth 100000 in
theorem grp_digit {B b : Nat} {g : Grp} {w : World} {r : Int} (h : GrpAt B b g w) (hk : g.Ok) (hr : 0 ≤ r ∧ r < 2147483648) :
    Calls Tryd.prog 128 #[.pointer (some ⟨b, 0, none⟩), .int .i32 r] w fun e w' => GrpTook (g.digit r) B b w e w' := by
  have hR := grp_room h hk.len
  have hX := hex_calls r w hr
  obtain ⟨v, h0, hown⟩ := h.row
  obtain ⟨a, cap, rfl, -, -⟩ := own_form hown
  have hf := h.typed.open
  have c1 := h.c1
  have c2 := h.c2
  have c3 := h.c3
  have c4 := h.c4
  have c5 := h.c5
  have c6 := h.c6
  have H : Hid _ := h
  have hv := hk.value
  have hp4 := hk.part
  clear hown h
  unfold Grp.digit
  cases hh : hexv r with
  | none =>
    rw [hh] at hX
    go_enter Tryd.func128, Tryd.ntmps128
    go_wp2_with fail
    refine hX.mono ?_
    rintro e w' ⟨rfl, rfl⟩
    go_wp2_with fail
    all_goals go_ret
    all_goals exact ⟨rfl, Turns.refl _ _ _, fun g' hg' => by cases hg'⟩
  | some x =>
    rw [hh] at hX
    obtain ⟨hx0, hx1, hr0, hr1⟩ := hexv_lt hh
    dsimp only
    by_cases hno : g.lone = true ∨ g.room = 0 ∨ g.part.length = 4
    · rw [if_pos hno]
      generalize g.room = rm at *
      have HN : Hid _ := hno
      clear hno
      go_enter Tryd.func128, Tryd.ntmps128
      go_wp2_with fail
      refine hX.mono ?_
      rintro e w' ⟨rfl, rfl⟩
      clear hX
      go_wp2_with (go_at_call 122; refine hR.mono ?_; rintro e w1 ⟨rfl, rfl⟩)
      all_goals first
        | (go_ret; exact ⟨rfl, Turns.refl _ _ _, fun g' hg' => by cases hg'⟩)
        | (exfalso; have := HN.out; simp_all [Grp.lone]; done)
        | (exfalso; have := HN.out; simp_all [Grp.lone]; omega)
        | go_show
    · rw [if_neg hno]
      have hl : g.lone = false := by cases hq : g.lone with
        | false => rfl
        | true => exact absurd (.inl hq) hno
      have hm0 : (g.room == 0) = false := by simp; exact fun e => hno (.inr (.inl e))
      have hm4 : g.part.length < 4 := by have : ¬ g.part.length = 4 := fun e => hno (.inr (.inr e)); omega
      clear hno
      generalize g.room = rm at *
      have HN : Hid _ := hl
      have hz : ¬ 9223372036854775807 < g.part.length + (Utf8.encode r).size := by rw [encode_ascii hr0 hr1]; show ¬ 9223372036854775807 < g.part.length + 1; omega
      clear hl
      go_enter Tryd.func128, Tryd.ntmps128
      go_wp2_with fail
      refine hX.mono ?_
      rintro e w' ⟨rfl, rfl⟩
      clear hX
      go_wp2_with (go_at_call 122; refine hR.mono ?_; rintro e w1 ⟨rfl, rfl⟩)
      all_goals try (exfalso; have := HN.out; simp_all [Grp.lone]; done)
      all_goals clear hR
      all_goals
        go_region
        go_wp2
        go_ret
        have hw : Wrote b 1 6 w1 (((w1.setCell ⟨b, 1, none⟩ (.string (⟨g.part.toArray⟩ ++ Utf8.encode r))).setCell ⟨b, 2, none⟩ (.int .u16 (bits .or .u16 (IntKind.u16.wrap (g.value * 16)) x))).setCell ⟨b, 3, none⟩ (.int .i64 0)).drew := ((((Wrote.refl _ _ _ _).set (by omega) _).set (by omega) _).set (by omega) _).drew
        refine ⟨rfl, hw.turns H.out.hB, fun g' hg' => ?_⟩
        cases hg'
        have k1 : ((⟨g.part.toArray⟩ : ByteArray) ++ Utf8.encode r) = ⟨(g.part ++ [UInt8.ofNat r.toNat]).toArray⟩ := by
          rw [encode_ascii hr0 hr1]
          apply ByteArray.ext
          simp
        refine H.out.same hw (by omega) rfl ?_ ?_ (by go_cell) (by go_cell) (by go_cell) (by go_cell) (H.out.tail.wrote hw (by omega))
        · rw [← k1]; go_cell
        · rw [shl_or _ _ hv ⟨hx0, hx1⟩]; go_cell

end Go.Proofs.YtlpbffcijhgelaaDoor
