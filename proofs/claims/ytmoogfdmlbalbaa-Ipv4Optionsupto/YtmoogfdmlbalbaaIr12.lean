/-
  Parse and Part of whatever bytes; the document's.
-/
import Derived.Test.YtmoogfdmlbalbaaIr10
namespace Go.Proofs.Ytmoogfdmlbalbaa
open Go Go.RowKit
set_option linter.unusedVariables false
set_option linter.unusedSimpArgs false

theorem u8_low4' (zs : List Int) (hf : Fit zs) : bits .and .u8 (gz zs 0) 15 = gz zs 0 % 16 := u8_low4 _ (hf.gz 0)
theorem ParD.no {zs : List Int} {part : Bool} (h : pErr zs part ≠ (0, 0)) (w : World) : ParD zs part w zeroC := by
  unfold ParD
  rw [if_neg h]
  exact zero_dg w
theorem ParD.yes {zs : List Int} {part : Bool} {w : World} {c : List Value} (h : pErr zs part = (0, 0)) (hd : SaysD zs w c) : ParD zs part w c := by
  unfold ParD
  rw [if_pos h]
  exact hd
theorem ParD.on {zs : List Int} {part : Bool} {w w' : World} {c : List Value} (h : ParD zs part w c) (hb : Below w.heap.size w w') : ParD zs part w' c := by
  unfold ParD SaysD at *
  split
  · next e => rw [if_pos e] at h; exact h.on hb
  · next e => rw [if_neg e] at h; exact h.on hb
theorem ParD.len {zs : List Int} {part : Bool} {w : World} {c : List Value} (h : ParD zs part w c) : c.length = 17 ∧ ∀ v ∈ c, v.oneCell' = true := by
  unfold ParD SaysD at h
  split at h
  · exact ⟨h.lens.len, h.ones⟩
  · exact ⟨h.lens.len, h.ones⟩
theorem ParD.only {zs : List Int} {part : Bool} {w w' : World} {c : List Value} (h : ParD zs part w c) {B g : Nat} (hA : Apart B c) (hg : g < B) (hO : Only g w w') : ParD zs part w' c := by
  unfold ParD SaysD at *
  split
  · next e => rw [if_pos e] at h; exact h.only hA hg hO
  · next e => rw [if_neg e] at h; exact h.only hA hg hO

theorem pErr_short {zs : List Int} {part : Bool} (h : zs.length < 20) : pErr zs part = (0, 40) := by unfold pErr; rw [if_pos h]
theorem pErr_version {zs : List Int} {part : Bool} (h : 20 ≤ zs.length) (hv : gz zs 0 / 16 ≠ 4) : pErr zs part = (0, 41) := by unfold pErr; rw [if_neg (by omega), if_pos hv]
theorem pErr_head {zs : List Int} {part : Bool} (h : 20 ≤ zs.length) (hv : gz zs 0 / 16 = 4) (hs : ¬ (20 ≤ pHead zs ∧ pHead zs ≤ zs.length)) : pErr zs part = (0, 42) := by unfold pErr; rw [if_neg (by omega), if_neg (by omega), if_pos hs]
theorem pErr_length {zs : List Int} {part : Bool} (h : 20 ≤ zs.length) (hv : gz zs 0 / 16 = 4) (hs : 20 ≤ pHead zs ∧ pHead zs ≤ zs.length) (hl : pAll zs < zs.length ∨ (zs.length < pAll zs ∧ part = false)) : pErr zs part = (2, 43) := by
  unfold pErr; rw [if_neg (by omega), if_neg (by omega), if_neg (by omega), if_pos hl]
theorem pErr_sum {zs : List Int} (h : 20 ≤ zs.length) (hv : gz zs 0 / 16 = 4) (hs : 20 ≤ pHead zs ∧ pHead zs ≤ zs.length) (hl : pAll zs = zs.length) (hsum : sumW 0 (wordsL (zs.take (pHead zs).toNat)) ≠ 65535) : pErr zs false = (10, 44) := by
  unfold pErr; rw [if_neg (by omega), if_neg (by omega), if_neg (by omega), if_neg (by omega), if_pos ⟨rfl, hsum⟩]
theorem pErr_ok {zs : List Int} (h : 20 ≤ zs.length) (hv : gz zs 0 / 16 = 4) (hs : 20 ≤ pHead zs ∧ pHead zs ≤ zs.length) (hl : pAll zs = zs.length) (hsum : sumW 0 (wordsL (zs.take (pHead zs).toNat)) = 65535) : pErr zs false = (0, 0) := by
  unfold pErr; rw [if_neg (by omega), if_neg (by omega), if_neg (by omega), if_neg (by omega), if_neg (by simp [hsum])]
theorem pErr_part {zs : List Int} (h : 20 ≤ zs.length) (hv : gz zs 0 / 16 = 4) (hs : 20 ≤ pHead zs ∧ pHead zs ≤ zs.length) (hl : (zs.length : Int) ≤ pAll zs) : pErr zs true = (0, 0) := by
  unfold pErr; rw [if_neg (by omega), if_neg (by omega), if_neg (by omega), if_neg (by simp; omega), if_neg (by simp)]

/-- What a reader answers. -/
def ReadsAs (f : FuncId) (v : Value) (zs : List Int) (part : Bool) (w : World) : Prop :=
  Calls Try.prog f #[v] w fun e w' => ∃ c', e = .returned (.tuple #[.agg c'.toArray, .int .i64 (pErr zs part).1, .int .i64 (pErr zs part).2]) ∧ ParD zs part w' c' ∧ Apart w.heap.size c' ∧ Below w.heap.size w w'
theorem ReadsAs.no {f : FuncId} {v : Value} {zs : List Int} {part : Bool} {w : World} {at' er : Int} (he : pErr zs part = (at', er)) (hn : er ≠ 0)
    (h : Calls Try.prog f #[v] w fun e w' => e = .returned (.tuple #[.agg zeroC.toArray, .int .i64 at', .int .i64 er]) ∧ Below w.heap.size w w') : ReadsAs f v zs part w := by
  unfold ReadsAs
  refine h.mono ?_
  rintro e w' ⟨rfl, hb⟩
  refine ⟨zeroC, by rw [he], ParD.no ?_ w', zero_apart _, hb⟩
  rw [he]
  intro c
  injection c with _ c2
  exact hn c2
theorem ReadsAs.yes {f : FuncId} {v : Value} {zs : List Int} {part : Bool} {w : World} (he : pErr zs part = (0, 0))
    (h : Calls Try.prog f #[v] w fun e w' => ∃ c', e = .returned (.tuple #[.agg c'.toArray, .int .i64 0, .int .i64 0]) ∧ SaysD zs w' c' ∧ Apart w.heap.size c' ∧ Below w.heap.size w w') : ReadsAs f v zs part w := by
  unfold ReadsAs
  refine h.mono ?_
  rintro e w' ⟨c', rfl, hd, hA, hb⟩
  exact ⟨c', by rw [he], ParD.yes he hd, hA, hb⟩

theorem RowC.begin_no {w : World} {v : Value} {zs : List Int} (h : RowC w v zs) {at' er : Int} (hn : (zs.length < 20 ∧ (at', er) = (0, 40)) ∨ (20 ≤ zs.length ∧ gz zs 0 / 16 ≠ 4 ∧ (at', er) = (0, 41)) ∨ (20 ≤ zs.length ∧ gz zs 0 / 16 = 4 ∧ ¬ (20 ≤ pHead zs ∧ pHead zs ≤ zs.length) ∧ (at', er) = (0, 42))) :
    Calls Try.prog 37 #[v] w fun e w' => e = .panicked [faultP at' er] ∧ Below w.heap.size w w' := by
  rcases hn with ⟨hl, e⟩ | ⟨hl, hv, e⟩ | ⟨hl, hv, hs, e⟩
  · injection e with e1 e2
    subst e1 e2
    obtain ⟨_, _, a, cap, rfl, _⟩ := h
    exact begin_short a _ cap w hl
  · injection e with e1 e2
    subst e1 e2
    obtain ⟨b, off, cap, rfl, hcap, hb, hc⟩ := h.some (by omega)
    exact begin_version b off _ cap (gz zs 0) w hb hl hcap h.len (hc 0 (by omega)) (h.fit.gz 0) hv
  · injection e with e1 e2
    subst e1 e2
    obtain ⟨b, off, cap, rfl, hcap, hb, hc⟩ := h.some (by omega)
    exact begin_head b off _ cap (gz zs 0) w hb hl hcap h.len (hc 0 (by omega)) (h.fit.gz 0) hv hs (u8_low4 _ (h.fit.gz 0))

theorem Parse_any {w : World} {v : Value} {zs : List Int} (h : RowC w v zs) : ReadsAs 18 v zs false w := by
  by_cases h20 : zs.length < 20
  · exact .no (pErr_short h20) (by decide) (Parse_no v 0 40 w fun W hW => (h.on hW).begin_no (.inl ⟨h20, rfl⟩))
  · by_cases hv : gz zs 0 / 16 = 4
    · by_cases hs : 20 ≤ pHead zs ∧ pHead zs ≤ zs.length
      · obtain ⟨b, off, cap, rfl, hcap, hb, hc⟩ := h.some (by omega)
        by_cases hl : pAll zs = zs.length
        · by_cases hsum : sumW 0 (wordsL (zs.take (pHead zs).toNat)) = 65535
          · exact .yes (pErr_ok (by omega) hv hs hl hsum) (Parse_ok b off cap zs w h.fit h.len hcap hb hc (by omega) hv hs hl hsum)
          · exact .no (pErr_sum (by omega) hv hs hl hsum) (by decide) (Parse_sum b off cap zs w h.fit h.len hcap hb hc (by omega) hv hs hl hsum)
        · exact .no (pErr_length (by omega) hv hs (by simp; omega)) (by decide) (Parse_length b off cap zs w h.fit h.len hcap hb hc (by omega) hv hs hl)
      · exact .no (pErr_head (by omega) hv hs) (by decide) (Parse_no v 0 42 w fun W hW => (h.on hW).begin_no (.inr (.inr ⟨by omega, hv, hs, rfl⟩)))
    · exact .no (pErr_version (by omega) hv) (by decide) (Parse_no v 0 41 w fun W hW => (h.on hW).begin_no (.inr (.inl ⟨by omega, hv, rfl⟩)))
theorem Part_any {w : World} {v : Value} {zs : List Int} (h : RowC w v zs) : ReadsAs 20 v zs true w := by
  by_cases h20 : zs.length < 20
  · exact .no (pErr_short h20) (by decide) (Part_no v 0 40 w fun W hW => (h.on hW).begin_no (.inl ⟨h20, rfl⟩))
  · by_cases hv : gz zs 0 / 16 = 4
    · by_cases hs : 20 ≤ pHead zs ∧ pHead zs ≤ zs.length
      · obtain ⟨b, off, cap, rfl, hcap, hb, hc⟩ := h.some (by omega)
        by_cases hl : (zs.length : Int) ≤ pAll zs
        · exact .yes (pErr_part (by omega) hv hs hl) (Part_ok b off cap zs w h.fit h.len hcap hb hc (by omega) hv hs hl)
        · exact .no (pErr_length (by omega) hv hs (by simp; omega)) (by decide) (Part_length b off cap zs w h.fit h.len hcap hb hc (by omega) hv hs (by omega))
      · exact .no (pErr_head (by omega) hv hs) (by decide) (Part_no v 0 42 w fun W hW => (h.on hW).begin_no (.inr (.inr ⟨by omega, hv, hs, rfl⟩)))
    · exact .no (pErr_version (by omega) hv) (by decide) (Part_no v 0 41 w fun W hW => (h.on hW).begin_no (.inr (.inl ⟨by omega, hv, rfl⟩)))

end Go.Proofs.Ytmoogfdmlbalbaa
