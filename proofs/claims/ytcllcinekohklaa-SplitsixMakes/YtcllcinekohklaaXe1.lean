/-
  Fragments of IPv6 datagrams, plainly: each byte once, as few as may be.
-/
import Derived.Test.YtcllcinekohklaaXd4
namespace Go.Proofs.Ytcllcinekohklaa
open Go Go.RowKit
set_option linter.unusedVariables false
set_option linter.unusedSimpArgs false

def bodies (L : List FG) : List Int := L.flatMap (fun x => x.body)
theorem bodies_cons (x : FG) (L : List FG) : bodies (x :: L) = x.body ++ bodies L := by simp [bodies]
theorem bodies_push (L : List FG) (x : FG) : bodies (L ++ [x]) = bodies L ++ x.body := by simp [bodies]
theorem bodies_take_le (L : List FG) (k : Nat) : (bodies (L.take k)).length ≤ (bodies L).length := by
  have h : bodies L = bodies (L.take k) ++ bodies (L.drop k) := by
    conv => lhs; rw [← List.take_append_drop k L]
    unfold bodies
    rw [List.flatMap_append]
  rw [h, List.length_append]
  omega
/-- What a fragment among those of one datagram is. -/
structure FrOk (sp nn : Nat) (g : G6) (off : Int) (L : List FG) (j : Nat) (x : FG) : Prop where
  fr : x.g.fr = g.fr
  id : x.g.id = g.id
  pl : 8 * (x.g.off - off) = ((bodies (L.take j)).length : Int)
  lo : off ≤ x.g.off
  hi : x.g.off ≤ 8191
  mid : j + 1 < L.length → x.g.more = true ∧ x.body.length = nn
  last : j + 1 = L.length → x.g.more = g.more ∧ x.body.length ≤ sp
theorem frs_one {sp nn : Nat} {g : G6} {off : Int} {b : List Int} (hb : b.length ≤ sp) (ho : off ≤ 8191) :
    (∀ (j : Nat) (x : FG), ([⟨{ g with off := off }, b⟩] : List FG)[j]? = some x → FrOk sp nn g off [⟨{ g with off := off }, b⟩] j x) ∧ bodies [⟨{ g with off := off }, b⟩] = b := by
  refine ⟨fun j x hx => ?_, by simp [bodies]⟩
  match j, hx with
  | 0, hx =>
    simp at hx
    subst hx
    exact ⟨rfl, rfl, by simp [bodies], by simp, by simpa using ho, fun h => by simp at h, fun _ => ⟨rfl, hb⟩⟩
  | j + 1, hx => simp at hx
theorem frs_ok {sp nn : Nat} {g : G6} (h8 : 8 ≤ nn) (hd : nn % 8 = 0) (hle : nn ≤ sp) : ∀ (n : Nat) (off : Int) (b : List Int), b.length ≤ n → off ≤ 8191 → (frs sp nn g n off b).2 = none →
    (∀ (j : Nat) (x : FG), (frs sp nn g n off b).1[j]? = some x → FrOk sp nn g off (frs sp nn g n off b).1 j x) ∧ bodies (frs sp nn g n off b).1 = b ∧ 0 < (frs sp nn g n off b).1.length
  | 0, off, b, hb, ho, _ => by
    have h := frs_one (sp := sp) (nn := nn) (g := g) (off := off) (b := b) (by omega) ho
    exact ⟨h.1, h.2, by simp [frs]⟩
  | n + 1, off, b, hb, ho, he => by
    by_cases hf : b.length ≤ sp
    · rw [frs_fits hf]
      have h := frs_one (sp := sp) (nn := nn) (g := g) (off := off) (b := b) hf ho
      exact ⟨h.1, h.2, by simp⟩
    · by_cases hr : off + (nn / 8 : Nat) ≤ 8191
      · have e1 : (frs sp nn g (n + 1) off b).1 = ⟨{ g with off := off, more := true }, b.take nn⟩ :: (frs sp nn g n (off + (nn / 8 : Nat)) (b.drop nn)).1 := by
          simp only [frs, if_neg hf, if_pos hr]
        have e2 : (frs sp nn g (n + 1) off b).2 = (frs sp nn g n (off + (nn / 8 : Nat)) (b.drop nn)).2 := by
          simp only [frs, if_neg hf, if_pos hr]
        rw [e2] at he
        obtain ⟨h1, h2, h3⟩ := frs_ok h8 hd hle n (off + (nn / 8 : Nat)) (b.drop nn) (by rw [List.length_drop]; omega) hr he
        rw [e1]
        generalize (frs sp nn g n (off + (nn / 8 : Nat)) (b.drop nn)).1 = R at *
        refine ⟨fun j x hx => ?_, by rw [bodies_cons, h2]; exact List.take_append_drop nn b, by simp⟩
        match j, hx with
        | 0, hx =>
          simp at hx
          subst hx
          refine ⟨rfl, rfl, by simp [bodies], by simp, by simpa using ho, fun _ => ⟨rfl, ?_⟩, fun h => ?_⟩
          · show (b.take nn).length = nn
            rw [List.length_take]; omega
          · have h' : 0 + 1 = R.length + 1 := by simpa only [List.length_cons] using h
            omega
        | j + 1, hx =>
          simp only [List.getElem?_cons_succ] at hx
          obtain ⟨q1, q2, q3, q4, q5, q6, q7⟩ := h1 j x hx
          have hl : ∀ z : FG, (z :: R).length = R.length + 1 := fun z => List.length_cons
          refine ⟨q1, q2, ?_, by omega, q5, fun h => q6 (by rw [hl] at h; omega), fun h => q7 (by rw [hl] at h; omega)⟩
          rw [List.take_succ_cons, bodies_cons, List.length_append]
          show _ = (((b.take nn).length + (bodies (R.take j)).length : Nat) : Int)
          rw [List.length_take]
          have : (8 : Int) * ((nn / 8 : Nat) : Int) = (nn : Int) := by omega
          omega
      · rw [frs_far hf hb hr] at he
        cases he
/-- What a fragment of a datagram is, for any MTU. -/
structure FpOk (f : F6) (hs : Opts) (g : G6) (mtu id : Int) (L : List FG) (j : Nat) (x : FG) : Prop where
  ck : ckE f hs x.g x.body.length = 0
  fit : ((ahead6 hs x.g.fr + x.body.length : Nat) : Int) ≤ mtu
  pl : 8 * (x.g.off - g.off) = ((bodies (L.take j)).length : Int)
  off : 0 ≤ x.g.off ∧ x.g.off ≤ 8191
  mid : j + 1 < L.length → x.g.more = true ∧ x.body.length % 8 = 0 ∧ mtu - ((ahead6 hs x.g.fr + x.body.length : Nat) : Int) < 8
  last : j + 1 = L.length → x.g.more = g.more
  many : 1 < L.length → x.g.fr = true ∧ x.g.id = (hdG g id).id
theorem hdG_fr (g : G6) (id : Int) : (hdG g id).fr = true := by unfold hdG; by_cases h : g.fr = true <;> simp [h]
theorem hdG_off (g : G6) (id : Int) : (hdG g id).off = g.off := by unfold hdG; by_cases h : g.fr = true <;> simp [h]
theorem hdG_more (g : G6) (id : Int) : (hdG g id).more = g.more := by unfold hdG; by_cases h : g.fr = true <;> simp [h]
theorem ck_off {f : F6} {hs : Opts} {g : G6} {nb : Nat} (h : ckE f hs g nb = 0) : 0 ≤ g.off ∧ g.off ≤ 8191 := by
  have h3 := (ck_zero h).1.2.2
  unfold endB at h3
  by_cases hf : g.fr = true
  · rw [if_pos hf] at h3
    simp at h3
    omega
  · rw [if_neg hf] at h3
    simp at h3
    omega
theorem ck_frag {f : F6} {hs : Opts} {g : G6} {nb : Nat} (h : ckE f hs g nb = 0) {x : G6} (hx : x.fr = true) (ho : 0 ≤ x.off ∧ x.off ≤ 8191) {n : Nat} (hn : ahead6 hs true + n ≤ 65535) : ckE f hs x n = 0 := by
  have hk := (ck_zero h).1
  unfold ckE
  rw [if_pos ((okB_iff f hs x).2 ⟨hk.1, hk.2.1, by unfold endB; rw [hx]; simp; omega⟩), hx, if_pos (by omega)]
theorem fragP_all {f : F6} {hs : Opts} {g : G6} {body : List Int} {mtu id : Int} (he : (fragP f hs g body mtu id).2 = none) :
    (∀ (j : Nat) (x : FG), (fragP f hs g body mtu id).1[j]? = some x → FpOk f hs g mtu id (fragP f hs g body mtu id).1 j x) ∧ bodies (fragP f hs g body mtu id).1 = body ∧ 0 < (fragP f hs g body mtu id).1.length ∧ ckE f hs g body.length = 0 ∧ 1280 ≤ mtu ∧ mtu ≤ 65535 := by
  unfold fragP at *
  by_cases h1 : fitE f hs g body.length mtu ≠ 0
  · rw [if_pos h1] at he
    cases he
  rw [if_neg h1] at he ⊢
  obtain ⟨k1, k2, k3⟩ := fitE_zero (by simpa using h1)
  by_cases h2 : fitB hs g body.length mtu = true
  · rw [if_pos h2]
    refine ⟨fun j x hx => ?_, by simp [bodies], by simp, k1, k2, k3⟩
    match j, hx with
    | 0, hx =>
      simp at hx
      subst hx
      exact ⟨k1, by unfold fitB at h2; simpa using h2, by simp [bodies], ck_off k1, fun h => by simp at h, fun _ => rfl, fun h => by simp at h⟩
    | j + 1, hx => simp at hx
  rw [if_neg h2] at he ⊢
  by_cases h3 : g.more = true ∧ body.length % 8 ≠ 0
  · rw [if_pos h3] at he
    cases he
  rw [if_neg h3] at he ⊢
  by_cases h4 : mtu < (ahead6 hs true : Int) + 8
  · rw [if_pos h4] at he
    cases he
  rw [if_neg h4] at he ⊢
  have hsp : (spN hs mtu : Int) = mtu - (ahead6 hs true : Int) := by unfold spN; omega
  have ho := ck_off k1
  obtain ⟨q1, q2, q3⟩ := frs_ok (sp := spN hs mtu) (nn := spN hs mtu / 8 * 8) (g := hdG g id) (by omega) (by omega) (by omega) body.length (hdG g id).off body (Nat.le_refl _) (by rw [hdG_off]; exact ho.2) he
  refine ⟨fun j x hx => ?_, q2, q3, k1, k2, k3⟩
  obtain ⟨r1, r2, r3, r4, r5, r6, r7⟩ := q1 j x hx
  have hj := (List.getElem?_eq_some_iff.1 hx).1
  rw [hdG_fr] at r1
  have eo := hdG_off g id
  have hlen : ahead6 hs true + x.body.length ≤ 65535 ∧ ((ahead6 hs true + x.body.length : Nat) : Int) ≤ mtu := by
    by_cases e : j + 1 = (frs (spN hs mtu) (spN hs mtu / 8 * 8) (hdG g id) body.length (hdG g id).off body).1.length
    · have := (r7 e).2; omega
    · have := (r6 (by omega)).2; omega
  refine ⟨ck_frag k1 r1 ⟨by omega, r5⟩ hlen.1, by rw [r1]; exact hlen.2, by omega, ⟨by omega, r5⟩, fun h => ?_, fun h => by rw [(r7 h).1, hdG_more], fun _ => ⟨r1, r2⟩⟩
  obtain ⟨s1, s2⟩ := r6 h
  rw [r1]
  exact ⟨s1, by omega, by omega⟩

end Go.Proofs.Ytcllcinekohklaa
