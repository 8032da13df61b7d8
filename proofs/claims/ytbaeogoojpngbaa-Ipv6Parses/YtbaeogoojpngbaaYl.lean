/-
  What is written is read: Parse and Part of package ipv6 of a datagram's bytes; errors are none.
-/
import Derived.Test.YtbaeogoojpngbaaYj
import Derived.Test.YtbaeogoojpngbaaYk
namespace Go.Proofs.Ytbaeogoojpngbaa
open Go Go.RowKit
set_option linter.unusedVariables false
set_option linter.unusedSimpArgs false

theorem fin_eq {f : F6} {A : List Int} (he : f.ad = u8L A) {a b c d : Int} {L : List Int} (h : L.length = 32) (h1 : a = f.cls) (h2 : b = f.lab) (h3 : c = f.hop) (h4 : d = f.proto) (h5 : L = A) : finF a b c d L h = f := by
  obtain ⟨cls, lab, hop, proto, ad, len, one⟩ := f
  simp only at h1 h2 h3 h4 he
  subst h1 h2 h3 h4 h5 he
  rfl
theorem rdH_bad : ∀ (n : Nat) (rest : List Int) (at' : Nat) (kind : Int) (acc : Opts) (a2 : Nat) (e : Int), acc.length ≤ 8 → 9 ≤ n + acc.length → rdH n rest at' kind acc = .bad a2 e → e = 50 ∨ e = 53
  | 0, _, _, _, acc, _, _, h8, h9, _ => by omega
  | n + 1, rest, at', kind, acc, a2, e, h8, h9, h => by
    rw [rdH] at h
    by_cases c : isH kind = true
    · rw [if_pos c] at h
      by_cases c1 : rest.length < 8
      · rw [if_pos c1] at h; cases h; exact .inl rfl
      rw [if_neg c1] at h
      by_cases c2 : rest.length < szH rest
      · rw [if_pos c2] at h; cases h; exact .inl rfl
      rw [if_neg c2] at h
      by_cases c3 : acc.length < 8 ∧ kindB kind acc.length = true
      · rw [if_pos c3] at h
        exact rdH_bad n _ _ _ _ a2 e (by rw [List.length_append, List.length_singleton]; omega) (by rw [List.length_append, List.length_singleton]; omega) h
      · rw [if_neg c3] at h; cases h; exact .inr rfl
    · rw [if_neg c] at h; cases h
theorem par_bad {whole : Bool} {zs : List Int} {at' : Nat} {e : Int} (h : parR whole zs = .bad at' e) : (e == 0) = false ∧ (e != 0) = true := by
  have key : e = 50 ∨ e = 51 ∨ e = 52 ∨ e = 53 := by
    unfold parR at h
    by_cases c1 : zs.length < 40
    · rw [if_pos c1] at h; cases h; simp
    rw [if_neg c1] at h
    by_cases c2 : gz zs 0 / 16 ≠ 6
    · rw [if_pos c2] at h; cases h; simp
    rw [if_neg c2] at h
    by_cases c3 : badN whole zs
    · rw [if_pos c3] at h; cases h; simp
    rw [if_neg c3] at h
    cases hr : rdH 9 (zs.drop 40) 40 (gz zs 6) [] with
    | bad a e' =>
      rw [hr, endR] at h
      cases h
      rcases rdH_bad _ _ _ _ _ _ _ (by simp) (by simp) hr with h | h <;> simp [h]
    | ok hs k rest a =>
      rw [hr, endR] at h
      by_cases c4 : k = 44
      · rw [if_pos c4] at h
        by_cases c5 : rest.length < 8
        · rw [if_pos c5] at h; cases h; simp
        · rw [if_neg c5] at h; cases h
      · rw [if_neg c4] at h; cases h
  rcases key with rfl | rfl | rfl | rfl <;> simp
section
variable {w : World} {v : Value} {f : F6} {A : List Int} {hs : Opts} {g : G6} {N : Nat} {body : List Int}
theorem back_fin (he : f.ad = u8L A) (hA : A.length = 32) (hN : N ≤ 65535) (hcl : 0 ≤ f.cls ∧ f.cls < 256) (hlb : 0 ≤ f.lab ∧ f.lab ≤ 1048575) (hA' : (((wrN f A hs g N body).drop 8).take 32).length = 32) :
    finF (clsN (wrN f A hs g N body)) (labN (wrN f A hs g N body)) (gz (wrN f A hs g N body) 7) f.proto (((wrN f A hs g N body).drop 8).take 32) hA' = f := by
  obtain ⟨-, -, z2, z3, z4, -, z6, -⟩ := wrN_gz (hs := hs) (g := g) (body := body) (f := f) hA hN hcl hlb
  exact fin_eq he hA' z2 z3 z4 rfl z6
theorem Parse_back (h : BS (fun b => b < w.heap.size) w v (wrL f A hs g body)) (hk : ckE f hs g body.length = 0) (he : f.ad = u8L A) (hA : A.length = 32) (hcl : 0 ≤ f.cls ∧ f.cls < 256) (hlb : 0 ≤ f.lab) (hid : 0 ≤ g.id ∧ g.id ≤ 4294967295) :
    Calls Try.prog 15 #[v] w fun e w' => ∃ vh vb, e = .returned (.tuple #[VV f g vh vb, .int .i64 0, .int .i64 0]) ∧ D6 (fun b => w.heap.size ≤ b) w' f vh vb hs body ∧ Below w.heap.size w w' := by
  obtain ⟨hok, hsz⟩ := ck_zero hk
  have hp := par_wrN (N := ahead6 hs g.fr - 40 + body.length) (body := body) true hok hA (by unfold ahead6 at *; omega) hcl hlb hid (Nat.le_refl _) (fun _ => rfl)
  rw [← wrL_N] at hp
  have hlab := hok.1
  refine Parse_X h _ (fun at' er hb => ?_) (fun hs' g' proto body' hA' ho w' vh vb hd hbw => ?_)
  · rw [hp] at hb; cases hb
  · rw [hp] at ho
    cases ho
    have hfe : finF (clsN (wrL f A hs g body)) (labN (wrL f A hs g body)) (gz (wrL f A hs g body) 7) f.proto (((wrL f A hs g body).drop 8).take 32) hA' = f := by
      rw [wrL_N] at hA'
      exact back_fin he hA (by unfold ahead6 at *; omega) hcl ⟨hlb, hlab⟩ hA'
    rw [hfe] at hd ⊢
    exact ⟨vh, vb, rfl, hd, hbw⟩
theorem Part_back (h : BS (fun b => b < w.heap.size) w v (wrN f A hs g N body)) (hok : ok6 f.lab hs g.fr g.id g.off g.more f.proto) (hN : N ≤ 65535) (hb : ahead6 hs g.fr - 40 + body.length ≤ N) (he : f.ad = u8L A) (hA : A.length = 32) (hcl : 0 ≤ f.cls ∧ f.cls < 256) (hlb : 0 ≤ f.lab) (hid : 0 ≤ g.id ∧ g.id ≤ 4294967295) :
    Calls Try.prog 17 #[v] w fun e w' => ∃ vh vb, e = .returned (.tuple #[VV f g vh vb, .int .i64 0, .int .i64 0]) ∧ D6 (fun b => w.heap.size ≤ b) w' f vh vb hs body ∧ Below w.heap.size w w' := by
  have hp := par_wrN (N := N) (body := body) false hok hA hN hcl hlb hid hb (by simp)
  have hlab := hok.1
  refine Part_X h _ (fun at' er hb => ?_) (fun hs' g' proto body' hA' ho w' vh vb hd hbw => ?_)
  · rw [hp] at hb; cases hb
  · rw [hp] at ho
    cases ho
    rw [back_fin he hA hN hcl ⟨hlb, hlab⟩ hA'] at hd ⊢
    exact ⟨vh, vb, rfl, hd, hbw⟩
/-- What is cut off the end is the body's. -/
theorem wrN_take (hA : A.length = 32) (n : Nat) (hn : n ≤ body.length) : (wrN f A hs g N body).take ((wrN f A hs g N body).length - n) = wrN f A hs g N (body.take (body.length - n)) := by
  rw [wrN_len hA]
  unfold wrN
  rw [List.take_append]
  have e : (frontL f A (nx6 hs g.fr f.proto 0) (N : Int) ++ hdsL hs g.fr f.proto hs.length ++ (if g.fr then fragL g.id g.off g.more f.proto else [])).length = ahead6 hs g.fr := by
    have := wrN_len (f := f) (A := A) (hs := hs) (g := g) (N := N) (body := []) hA
    unfold wrN at this
    simpa using this
  rw [e, List.take_of_length_le (by rw [e]; omega)]
  congr 2
  omega
end
theorem Parse_or {w : World} {v : Value} {zs : List Int} (h : BS (fun b => b < w.heap.size) w v zs) :
    Calls Try.prog 15 #[v] w fun e w' => (∃ (at' : Nat) (er : Int), e = .returned (.tuple #[VV zF zG (.slice none 0 0) (.slice none 0 0), .int .i64 at', .int .i64 er]) ∧ (er == 0) = false ∧ (er != 0) = true ∧ Below w.heap.size w w') ∨ (∃ f A g vh vb hs body, e = .returned (.tuple #[VV f g vh vb, .int .i64 0, .int .i64 0]) ∧ D6 (fun b => w.heap.size ≤ b) w' f vh vb hs body ∧ Below w.heap.size w w' ∧ ckE f hs g body.length = 0 ∧ ahead6 hs g.fr + body.length = zs.length ∧ f.ad = u8L A ∧ A.length = 32 ∧ Fit A ∧ (0 ≤ f.cls ∧ f.cls < 256) ∧ (0 ≤ f.hop ∧ f.hop < 256) ∧ (0 ≤ f.proto ∧ f.proto < 256) ∧ (0 ≤ g.id ∧ g.id ≤ 4294967295)) := by
  refine Parse_X h _ (fun at' er hb w' hbw => .inl ⟨at', er, by rw [zeroV_vC], (par_bad hb).1, (par_bad hb).2, hbw⟩) (fun hs g proto body hA ho w' vh vb hd hbw => .inr ?_)
  obtain ⟨h1, h2, h3, h4⟩ := par_ok h.row.fit ho hA
  have f0 := gz_fit h.row.fit 0
  have f1 := gz_fit h.row.fit 1
  exact ⟨_, _, g, vh, vb, hs, body, rfl, hd, hbw, h1, h2, rfl, hA, fun z hz => h.row.fit z (List.mem_of_mem_drop (List.mem_of_mem_take hz)), by show 0 ≤ clsN zs ∧ clsN zs < 256; unfold clsN; omega, gz_fit h.row.fit 7, h3, h4⟩

end Go.Proofs.Ytbaeogoojpngbaa
