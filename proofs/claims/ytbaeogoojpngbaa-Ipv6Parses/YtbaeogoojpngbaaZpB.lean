/-
  The document's parse: addresses as they are filled, and where it ends at once.
  The document's reader in the middle of its heads; what head comes to there.
-/
import Derived.Test.YtbaeogoojpngbaaYp4
namespace Go.Proofs.Ytbaeogoojpngbaa
open Go Go.RowKit
set_option linter.unusedVariables false
set_option linter.unusedSimpArgs false

/-- The first i bytes of both addresses. -/
def adL (zs : List Int) (i : Nat) : List Int := (List.range 32).map (fun j => if j % 16 < i then gz zs (8 + j) else 0)
theorem adL_len (zs : List Int) (i : Nat) : (adL zs i).length = 32 := by simp [adL]
theorem adL_set (zs : List Int) {i : Nat} (hi : i < 16) : ((u8L (adL zs i)).set i (.int .u8 (gz zs (8 + i)))).set (16 + i) (.int .u8 (gz zs (24 + i))) = u8L (adL zs (i + 1)) := by
  apply List.ext_getElem?
  intro j
  unfold u8L adL
  by_cases hj : j < 32
  · by_cases e1 : j = 16 + i
    · subst e1
      rw [List.getElem?_set_self (by simp; omega)]
      simp [show 16 + i < 32 by omega, show i % 16 < i + 1 by omega, show 8 + (16 + i) = 24 + i by omega]
    · rw [List.getElem?_set_ne (by omega)]
      by_cases e2 : j = i
      · subst e2
        rw [List.getElem?_set_self (by simp; omega)]
        simp [show j < 32 by omega, show j % 16 < j + 1 by omega]
      · rw [List.getElem?_set_ne (by omega)]
        have : (j % 16 < i) ↔ (j % 16 < i + 1) := by omega
        simp [hj, this]
  · rw [List.getElem?_eq_none (by simp; omega), List.getElem?_eq_none (by simp; omega)]
theorem adL_zero (zs : List Int) : u8L (adL zs 0) = List.replicate 32 (.int .u8 0) := by
  unfold adL u8L
  rfl
theorem adL_all {zs : List Int} (h : 40 ≤ zs.length) : adL zs 16 = (zs.drop 8).take 32 := by
  apply List.ext_getElem?
  intro j
  unfold adL
  by_cases hj : j < 32
  · rw [List.getElem?_take, if_pos hj, List.getElem?_drop]
    have hj2 : 8 + j < zs.length := by omega
    simp [hj, show j % 16 < 16 by omega, gz, List.getElem?_eq_getElem hj2]
  · rw [List.getElem?_eq_none (by simp; omega), List.getElem?_eq_none (by simp; omega)]
section
variable {W : World} {b : Nat} {cls lab hop proto : Int} {g : G6} {vh vb : Value} {zs : List Int} {i : Nat}
theorem vC_ad (cls lab hop proto : Int) (L : List Int) (h : L.length = 32) (g : G6) (vh vb : Value) : vC (finF cls lab hop proto L h) g vh vb = [.int .u8 cls, .int .u32 lab, .int .u8 hop] ++ (u8L L ++ [vh, .bool g.fr, .int .u32 g.id, .int .i64 g.off, .bool g.more, .int .u8 proto, vb]) := rfl
theorem set_mid (p l r : List Value) (j : Nat) (x : Value) (hp : p.length = 3) (hj : j < l.length) : (p ++ (l ++ r)).set (3 + j) x = p ++ (l.set j x ++ r) := by
  rw [List.set_append_right _ _ (by omega), hp, show 3 + j - 3 = j by omega, List.set_append_left _ _ hj]
theorem ad_step (h : W.heap[b]? = some (BV (finF cls lab hop proto (adL zs i) (adL_len zs i)) g vh vb)) (hi : i < 16) :
    ((W.setCell ⟨b, 3 + i, none⟩ (.int .u8 (gz zs (8 + i)))).setCell ⟨b, 19 + i, none⟩ (.int .u8 (gz zs (24 + i)))).heap[b]? = some (BV (finF cls lab hop proto (adL zs (i + 1)) (adL_len zs (i + 1))) g vh vb) := by
  have h1 := blk_set h (3 + i) (.int .u8 (gz zs (8 + i)))
  have h2 := blk_set h1 (19 + i) (.int .u8 (gz zs (24 + i)))
  have hl : (u8L (adL zs i)).length = 32 := by simp [u8L, adL_len]
  have key : ((vC (finF cls lab hop proto (adL zs i) (adL_len zs i)) g vh vb).set (3 + i) (.int .u8 (gz zs (8 + i)))).set (19 + i) (.int .u8 (gz zs (24 + i))) = vC (finF cls lab hop proto (adL zs (i + 1)) (adL_len zs (i + 1))) g vh vb := by
    rw [vC_ad, vC_ad]
    rw [set_mid _ _ _ _ _ rfl (by rw [hl]; omega), show 19 + i = 3 + (16 + i) by omega, set_mid _ _ _ _ _ rfl (by rw [List.length_set, hl]; omega), adL_set zs hi]
  rw [h2, key]
theorem ad_cell (h : W.heap[b]? = some (BV (finF cls lab hop proto (adL zs i) (adL_len zs i)) g vh vb)) {j : Nat} (hj : j < 32) : ∃ x : Int, W.cell? ⟨b, 3 + j, none⟩ = some (.int .u8 x) := by
  refine ⟨(adL zs i)[j]'(by rw [adL_len]; exact hj), ?_⟩
  refine blk_cell h ?_
  rw [vC_ad, List.getElem?_append_right (by simp), List.getElem?_append_left (by simp [u8L, adL_len]; omega)]
  simp [u8L, adL_len, hj]
end

end Go.Proofs.Ytbaeogoojpngbaa

namespace Go.Proofs.Ytbaeogoojpngbaa
open Go Go.RowKit
set_option linter.unusedVariables false
set_option linter.unusedSimpArgs false

/-- The reader among the heads (fr: a fragment header was read). -/
structure PI (w : World) (R V zb zo zl zc bs : Nat) (F : Int → F6) (zs : List Int) (E0 : PR) (kind : Int) (at' : Nat) (fr : Bool) (W : World) : Prop where
  le : at' ≤ zl
  rb : W.heap[R]? = some (DBox (.slice (some ⟨zb, zo, none⟩) zl zc) at' 0 0)
  bel : Sep (fun b => b = R ∨ b = V ∨ bs ≤ b) w W
  st : if fr = true then (∃ hs ds vh g p, W.heap[V]? = some (BV (F p) g vh (.slice none 0 0)) ∧ g.fr = true ∧ E0 = .ok hs g p (zs.drop at') ∧ HRow bs W vh hs ds ∧ hs.length ≤ 8)
    else (∃ n hs ds vh, W.heap[V]? = some (BV (F 0) zG vh (.slice none 0 0)) ∧ HRow bs W vh hs ds ∧ hs.length + n = 9 ∧ hs.length ≤ 8 ∧ endR (rdH n (zs.drop at') at' kind hs) = E0 ∧ (0 ≤ kind ∧ kind < 256))
def proF (F : Int → F6) : Prop := ∀ p x, { F p with proto := x } = F x
section
variable {w W : World} {R V zb zo zl zc bs at' : Nat} {F : Int → F6} {zs : List Int} {E0 : PR} {kind : Int}
theorem row_at {zs : List Int} {b off cap n : Nat} (h : RowS W (.slice (some ⟨b, off, none⟩) zs.length cap) zs b off cap) (hn : n < zs.length) : RowS W (.slice (some ⟨b, off + n, none⟩) (zs.drop n).length (cap - n)) (zs.drop n) b (off + n) (cap - n) := by
  have h1 := h.rest n (by omega)
  have hr := h.room
  rw [nxt_lt (by omega), restV_eq, nxt_lt (by omega)] at h1
  rw [List.length_drop]
  exact h1
theorem head_all (hF : proF F) (hi : PI w R V zb zo zl zc bs F zs E0 kind at' false W) (hk : isH kind = true ∨ kind = 44) (hrs : RowS W (.slice (some ⟨zb, zo, none⟩) zl zc) zs zb zo zc) (hz : zl ≤ 1000000000) (hzl : zs.length = zl) (hRV : R ≠ V) (hzR : zb ≠ R) (hzV : zb ≠ V) (hzb : zb < bs) (hRb : R < bs) (hVb : V < bs) (hbs : bs ≤ W.heap.size) :
    Calls Try.prog 51 #[.pointer (some ⟨R, 0, none⟩), .pointer (some ⟨V, 0, none⟩), .int .u8 kind] W fun e w' =>
      (∃ er : Int, e = .returned (.tuple #[.int .u8 0, .bool false]) ∧ w'.heap[R]? = some (DBox (.slice (some ⟨zb, zo, none⟩) zl zc) at' er at') ∧ E0 = .bad at' er ∧ Sep (fun b => b = R ∨ b = V ∨ bs ≤ b) w w') ∨
      (∃ kind' at2 fr, e = .returned (.tuple #[.int .u8 kind', .bool true]) ∧ PI w R V zb zo zl zc bs F zs E0 kind' at2 fr w' ∧ at' < at2) := by
  obtain ⟨hle, hR, hB, hst⟩ := hi
  simp only [Bool.false_eq_true, if_false] at hst
  obtain ⟨n, hs, ds, vh, hV, hrow, hn9, hn8, hE, hkf⟩ := hst
  have hroom : zl ≤ zc := by have := hrs.room; omega
  obtain ⟨n, rfl⟩ : ∃ m, n = m + 1 := ⟨n - 1, by omega⟩
  have hlen : (zs.drop at').length = zl - at' := by rw [List.length_drop, hzl]
  by_cases h8 : zl - at' < 8
  · refine (head_short hR hle h8 (by omega)).mono ?_
    rintro e w' ⟨rfl, hr, hs'⟩
    refine .inl ⟨50, rfl, hr, ?_, hB.trans (hs'.mono (fun b _ hb => .inl hb))⟩
    rw [← hE]
    rcases hk with hk | hk
    · rw [rdH, if_pos hk, if_pos (by omega), endR]
    · rw [rdH, if_neg (by rw [hk]; decide), endR_short hk (by omega)]
  · have hat : at' < zl := by omega
    have hrow8 := row_at (n := at') (by rw [hzl]; exact hrs) (by omega)
    have hfit := hrow8.fit
    by_cases h44 : kind = 44
    · subst h44
      refine (head_frag hR hV hle (by omega) hroom (by omega) hfit (fun j hj => hrow8.cell j (by omega)) hRV hzR hzV).mono ?_
      rintro e w' ⟨rfl, hr, hv, hs'⟩
      rw [hF] at hv
      refine .inr ⟨0, at' + 8, true, rfl, ⟨by omega, hr, hB.trans (hs'.mono (fun b _ hb => hb.elim .inl (fun h => .inr (.inl h)))), ?_⟩, by omega⟩
      simp only [if_true]
      refine ⟨hs, ds, vh, _, _, hv, rfl, ?_, hrow.sep hs' (fun b hb e => by omega), hn8⟩
      rw [← hE, rdH, if_neg (by decide), endR_frag rfl (by omega), List.drop_drop]
    · have hkk : isH kind = true := hk.resolve_right h44
      obtain ⟨k1, hk1⟩ : ∃ k1 : Nat, gz (zs.drop at') 1 = (k1 : Int) := ⟨(gz (zs.drop at') 1).toNat, by have := gz_fit hfit 1; omega⟩
      have hk256 : k1 < 256 := by have := gz_fit hfit 1; omega
      have hsz : szH (zs.drop at') = 8 * (k1 + 1) := by unfold szH; rw [hk1]; simp; omega
      have hc1 : W.cell? ⟨zb, zo + at' + 1, none⟩ = some (.int .u8 (k1 : Int)) := by rw [← hk1]; exact hrow8.cell 1 (by omega)
      obtain ⟨va, vm, ev⟩ := hrow.slc
      by_cases hs2 : zl - at' < 8 * (k1 + 1)
      · rw [ev] at hV
        refine (head_short2 hR hV hle (by omega) hroom (by omega) h44 hc1 hk256 hs2).mono ?_
        rintro e w' ⟨rfl, hr, hs'⟩
        refine .inl ⟨50, rfl, hr, ?_, hB.trans (hs'.mono (fun b _ hb => .inl hb))⟩
        rw [← hE, rdH, if_pos hkk, if_neg (by omega), if_pos (by omega), endR]
      · by_cases hgood : hs.length < 8 ∧ kindB kind hs.length = true
        · have hkb : kind = 0 → hs.length = 0 := fun e => by
            have := hgood.2
            unfold kindB at this
            rw [e] at this
            have h9 : isH 0 = true ∧ hs = [] := by simpa using this
            rw [h9.2]
            rfl
          refine (head_good (f := F 0) (g := zG) hR hV hle (by omega) hlen hroom hz h44 hkf hrow8 (by omega) ⟨hgood.1, hkb⟩ hrow hRV hzR hzV hzb hRb hVb hbs).mono ?_
          rintro e w' ⟨rfl, hr, ⟨vh', ds', hv, hrow'⟩, hs'⟩
          refine .inr ⟨gz (zs.drop at') 0, at' + szH (zs.drop at'), false, rfl, ⟨by omega, hr, hB.trans hs', ?_⟩, by omega⟩
          simp only [Bool.false_eq_true, if_false]
          refine ⟨n, _, ds', vh', hv, hrow', by simp; omega, by simp; omega, ?_, gz_fit hfit 0⟩
          rw [← hE, rdH_go hkk (by omega) (by omega) hgood, List.drop_drop]
        · have hE' : E0 = .bad at' 53 := by rw [← hE, rdH, if_pos hkk, if_neg (by omega), if_neg (by omega), if_neg hgood, endR]
          rw [ev] at hV
          by_cases h0 : kind = 0 ∧ 0 < hs.length
          · refine (head_fullA hR hV hle (by omega) hroom (by omega) h44 hc1 hk256 (by omega) h0.1 h0.2).mono ?_
            rintro e w' ⟨rfl, hr, hs'⟩
            exact .inl ⟨53, rfl, hr, hE', hB.trans (hs'.mono (fun b _ hb => .inl hb))⟩
          · have h88 : 8 ≤ hs.length := by
              by_cases h9 : hs.length < 8
              · exfalso
                apply hgood
                refine ⟨h9, ?_⟩
                unfold kindB
                rw [hkk]
                by_cases e0 : kind = 0
                · have : hs.length = 0 := by
                    by_cases e1 : 0 < hs.length
                    · exact absurd ⟨e0, e1⟩ h0
                    · omega
                  simp [this]
                · simp [e0]
              · omega
            refine (head_fullB hR hV hle (by omega) hroom (by omega) h44 hc1 hk256 (by omega) h88 h0).mono ?_
            rintro e w' ⟨rfl, hr, hs'⟩
            exact .inl ⟨53, rfl, hr, hE', hB.trans (hs'.mono (fun b _ hb => .inl hb))⟩
end

end Go.Proofs.Ytbaeogoojpngbaa
