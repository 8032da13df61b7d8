/-
  The document's reader in the middle of its heads; what head comes to there.
-/
import Derived.Test.YtbaeogoojpngbaaYp4
namespace Go.Proofs.Ytbaeogoojpngbaa
open Go Go.RowKit
set_option linter.unusedVariables false
set_option linter.unusedSimpArgs false

/-- The reader among the heads (fr: a fragment header was read). -/
structure PI (w : World) (R V zb zo zl zc bs : Nat) (F : Int → F6) (zs : List Int) (E0 : PR) (kind : Int) (at' : Nat) (fr : Bool) (W : World) : Prop where
  le : at' ≤ zl
  rb : W.heap[R]? = some (DBox (.slice (some ⟨zb, zo, none⟩) zl zc) at' 0 0)
  bel : Sep (fun b => b = R ∨ b = V ∨ bs ≤ b) w W
  st : if fr = true then (∃ hs ds vh g p, W.heap[V]? = some (BV (F p) g vh (.slice none 0 0)) ∧ g.fr = true ∧ E0 = .ok hs g p (zs.drop at') ∧ HRow bs W vh hs ds ∧ hs.length ≤ 8)
    else (∃ n hs ds vh, W.heap[V]? = some (BV (F 0) zG vh (.slice none 0 0)) ∧ HRow bs W vh hs ds ∧ hs.length + n = 9 ∧ hs.length ≤ 8 ∧ endR (rdH n (zs.drop at') at' kind hs) = E0 ∧ (0 ≤ kind ∧ kind < 256))
def proF (F : Int → F6) : Prop := ∀ p x, { F p with proto := x } = F x
section
variable {w W : World} {R V zb zo zl zc bs at' : Nat} {F : Int → F6} {zs : List Int} {E0 : PR} {kind : Int}
theorem row_at {zs : List Int} {b off cap n : Nat} (h : RowS W (.slice (some ⟨b, off, none⟩) zs.length cap) zs b off cap) (hn : n < zs.length) : RowS W (.slice (some ⟨b, off + n, none⟩) (zs.drop n).length (cap - n)) (zs.drop n) b (off + n) (cap - n) := by
  have h1 := h.rest n (by omega)
  have hr := h.room
  rw [nxt_lt (by omega), restV_eq, nxt_lt (by omega)] at h1
  rw [List.length_drop]
  exact h1
theorem head_all (hF : proF F) (hi : PI w R V zb zo zl zc bs F zs E0 kind at' false W) (hk : isH kind = true ∨ kind = 44) (hrs : RowS W (.slice (some ⟨zb, zo, none⟩) zl zc) zs zb zo zc) (hz : zl ≤ 1000000000) (hzl : zs.length = zl) (hRV : R ≠ V) (hzR : zb ≠ R) (hzV : zb ≠ V) (hzb : zb < bs) (hRb : R < bs) (hVb : V < bs) (hbs : bs ≤ W.heap.size) :
    Calls Try.prog 51 #[.pointer (some ⟨R, 0, none⟩), .pointer (some ⟨V, 0, none⟩), .int .u8 kind] W fun e w' =>
      (∃ er : Int, e = .returned (.tuple #[.int .u8 0, .bool false]) ∧ w'.heap[R]? = some (DBox (.slice (some ⟨zb, zo, none⟩) zl zc) at' er at') ∧ E0 = .bad at' er ∧ Sep (fun b => b = R ∨ b = V ∨ bs ≤ b) w w') ∨
      (∃ kind' at2 fr, e = .returned (.tuple #[.int .u8 kind', .bool true]) ∧ PI w R V zb zo zl zc bs F zs E0 kind' at2 fr w' ∧ at' < at2) := by
  obtain ⟨hle, hR, hB, hst⟩ := hi
  simp only [Bool.false_eq_true, if_false] at hst
  obtain ⟨n, hs, ds, vh, hV, hrow, hn9, hn8, hE, hkf⟩ := hst
  have hroom : zl ≤ zc := by have := hrs.room; omega
  obtain ⟨n, rfl⟩ : ∃ m, n = m + 1 := ⟨n - 1, by omega⟩
  have hlen : (zs.drop at').length = zl - at' := by rw [List.length_drop, hzl]
  by_cases h8 : zl - at' < 8
  · refine (head_short hR hle h8 (by omega)).mono ?_
    rintro e w' ⟨rfl, hr, hs'⟩
    refine .inl ⟨50, rfl, hr, ?_, hB.trans (hs'.mono (fun b _ hb => .inl hb))⟩
    rw [← hE]
    rcases hk with hk | hk
    · rw [rdH, if_pos hk, if_pos (by omega), endR]
    · rw [rdH, if_neg (by rw [hk]; decide), endR_short hk (by omega)]
  · have hat : at' < zl := by omega
    have hrow8 := row_at (n := at') (by rw [hzl]; exact hrs) (by omega)
    have hfit := hrow8.fit
    by_cases h44 : kind = 44
    · subst h44
      refine (head_frag hR hV hle (by omega) hroom (by omega) hfit (fun j hj => hrow8.cell j (by omega)) hRV hzR hzV).mono ?_
      rintro e w' ⟨rfl, hr, hv, hs'⟩
      rw [hF] at hv
      refine .inr ⟨0, at' + 8, true, rfl, ⟨by omega, hr, hB.trans (hs'.mono (fun b _ hb => hb.elim .inl (fun h => .inr (.inl h)))), ?_⟩, by omega⟩
      simp only [if_true]
      refine ⟨hs, ds, vh, _, _, hv, rfl, ?_, hrow.sep hs' (fun b hb e => by omega), hn8⟩
      rw [← hE, rdH, if_neg (by decide), endR_frag rfl (by omega), List.drop_drop]
    · have hkk : isH kind = true := hk.resolve_right h44
      obtain ⟨k1, hk1⟩ : ∃ k1 : Nat, gz (zs.drop at') 1 = (k1 : Int) := ⟨(gz (zs.drop at') 1).toNat, by have := gz_fit hfit 1; omega⟩
      have hk256 : k1 < 256 := by have := gz_fit hfit 1; omega
      have hsz : szH (zs.drop at') = 8 * (k1 + 1) := by unfold szH; rw [hk1]; simp; omega
      have hc1 : W.cell? ⟨zb, zo + at' + 1, none⟩ = some (.int .u8 (k1 : Int)) := by rw [← hk1]; exact hrow8.cell 1 (by omega)
      obtain ⟨va, vm, ev⟩ := hrow.slc
      by_cases hs2 : zl - at' < 8 * (k1 + 1)
      · rw [ev] at hV
        refine (head_short2 hR hV hle (by omega) hroom (by omega) h44 hc1 hk256 hs2).mono ?_
        rintro e w' ⟨rfl, hr, hs'⟩
        refine .inl ⟨50, rfl, hr, ?_, hB.trans (hs'.mono (fun b _ hb => .inl hb))⟩
        rw [← hE, rdH, if_pos hkk, if_neg (by omega), if_pos (by omega), endR]
      · by_cases hgood : hs.length < 8 ∧ kindB kind hs.length = true
        · have hkb : kind = 0 → hs.length = 0 := fun e => by
            have := hgood.2
            unfold kindB at this
            rw [e] at this
            have h9 : isH 0 = true ∧ hs = [] := by simpa using this
            rw [h9.2]
            rfl
          refine (head_good (f := F 0) (g := zG) hR hV hle (by omega) hlen hroom hz h44 hkf hrow8 (by omega) ⟨hgood.1, hkb⟩ hrow hRV hzR hzV hzb hRb hVb hbs).mono ?_
          rintro e w' ⟨rfl, hr, ⟨vh', ds', hv, hrow'⟩, hs'⟩
          refine .inr ⟨gz (zs.drop at') 0, at' + szH (zs.drop at'), false, rfl, ⟨by omega, hr, hB.trans hs', ?_⟩, by omega⟩
          simp only [Bool.false_eq_true, if_false]
          refine ⟨n, _, ds', vh', hv, hrow', by simp; omega, by simp; omega, ?_, gz_fit hfit 0⟩
          rw [← hE, rdH_go hkk (by omega) (by omega) hgood, List.drop_drop]
        · have hE' : E0 = .bad at' 53 := by rw [← hE, rdH, if_pos hkk, if_neg (by omega), if_neg (by omega), if_neg hgood, endR]
          rw [ev] at hV
          by_cases h0 : kind = 0 ∧ 0 < hs.length
          · refine (head_fullA hR hV hle (by omega) hroom (by omega) h44 hc1 hk256 (by omega) h0.1 h0.2).mono ?_
            rintro e w' ⟨rfl, hr, hs'⟩
            exact .inl ⟨53, rfl, hr, hE', hB.trans (hs'.mono (fun b _ hb => .inl hb))⟩
          · have h88 : 8 ≤ hs.length := by
              by_cases h9 : hs.length < 8
              · exfalso
                apply hgood
                refine ⟨h9, ?_⟩
                unfold kindB
                rw [hkk]
                by_cases e0 : kind = 0
                · have : hs.length = 0 := by
                    by_cases e1 : 0 < hs.length
                    · exact absurd ⟨e0, e1⟩ h0
                    · omega
                  simp [this]
                · simp [e0]
              · omega
            refine (head_fullB hR hV hle (by omega) hroom (by omega) h44 hc1 hk256 (by omega) h88 h0).mono ?_
            rintro e w' ⟨rfl, hr, hs'⟩
            exact .inl ⟨53, rfl, hr, hE', hB.trans (hs'.mono (fun b _ hb => .inl hb))⟩
end

end Go.Proofs.Ytbaeogoojpngbaa
