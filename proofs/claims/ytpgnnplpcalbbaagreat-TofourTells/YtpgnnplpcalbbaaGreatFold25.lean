/-
  What is written is parsed as the same: the bytes.
  Addresses and a message in their boxes, the message's body cut.
  A part of two, for package icmp.
-/
import Derived.Test.YtpgnnplpcalbbaaGreatFold24
set_option linter.unusedVariables false
set_option linter.unusedSimpArgs false
namespace Go.Proofs.YtpgnnplpcalbbaaGreat.Icm
open Go Go.RowKit Go.Shelf
theorem sumW_mem_pos : ∀ (xs : List Int) (s : Int), 0 ≤ s → Words xs → (∃ x ∈ xs, 0 < x) → 0 < sumW s xs
  | [], s, _, _, h => by obtain ⟨x, hx, _⟩ := h; simp at hx
  | y :: ys, s, hs, hw, h => by
    have hy := hw y (by simp)
    have hws : Words ys := fun z hz => hw z (by simp [hz])
    have ha : 0 ≤ addW s y := by unfold addW; split <;> omega
    show 0 < sumW (addW s y) ys
    by_cases h0 : 0 < y
    · refine sumW_pos ys (addW s y) hws ?_
      unfold addW
      split <;> omega
    · obtain ⟨x, hx, hx0⟩ := h
      simp at hx
      rcases hx with rfl | hx
      · omega
      · exact sumW_mem_pos ys _ ha hws ⟨x, hx, hx0⟩
theorem sumW_zero : ∀ (xs : List Int), (∀ x ∈ xs, x = 0) → sumW 0 xs = 0
  | [], _ => rfl
  | y :: ys, h => by
    have hy := h y (by simp)
    subst hy
    show sumW (addW 0 0) ys = 0
    have : addW 0 0 = 0 := by decide
    rw [this]
    exact sumW_zero ys (fun x hx => h x (by simp [hx]))
theorem words_mid (P R : List Int) (x : Int) (hP : P.length % 2 = 0) : wordsL (P ++ (w2 x ++ R)) = wordsL P ++ (x :: wordsL R) := by
  rw [wordsL_append _ _ hP]
  show wordsL P ++ wordsL (x / 256 :: x % 256 :: R) = _
  rw [wordsL_two, word_back]
theorem fill_sum0 (P R : List Int) (hP : P.length % 2 = 0) (fP : Fit P) (fR : Fit R) (x : Int) (hk : x = 65535 - sumW 0 (wordsL (P ++ (w2 0 ++ R)))) : sumW 0 (wordsL (P ++ (w2 x ++ R))) = 65535 := by
  have w0 : Words (wordsL (P ++ (w2 0 ++ R))) := wordsL_words (fP.append ((w2_fit (by decide)).append fR))
  have r0 := sumW_range _ 0 (by decide) w0
  have hx0 : 0 ≤ x ∧ x ≤ 65535 := by omega
  have wx : Words (wordsL (P ++ (w2 x ++ R))) := wordsL_words (fP.append ((w2_fit hx0).append fR))
  have rx := sumW_range _ 0 (by decide) wx
  have m0 := sumW_mod (wordsL (P ++ (w2 0 ++ R))) 0
  have mx := sumW_mod (wordsL (P ++ (w2 x ++ R))) 0
  have px : 0 < sumW 0 (wordsL (P ++ (w2 x ++ R))) := by
    rw [words_mid P R x hP] at wx ⊢
    by_cases hz : ∃ z ∈ wordsL P ++ wordsL R, 0 < z
    · obtain ⟨z, hz, h0⟩ := hz
      refine sumW_mem_pos _ 0 (by decide) wx ⟨z, ?_, h0⟩
      simp at hz ⊢
      rcases hz with h | h <;> simp [h]
    · have hall : ∀ z ∈ wordsL P ++ 0 :: wordsL R, z = 0 := fun z hz' => by
        have hzw : 0 ≤ z := by
          rw [words_mid P R 0 hP] at w0
          exact (w0 z hz').1
        simp at hz'
        rcases hz' with h | h | h
        · by_cases h0 : 0 < z
          · exact absurd ⟨z, by simp [h], h0⟩ hz
          · omega
        · exact h
        · by_cases h0 : 0 < z
          · exact absurd ⟨z, by simp [h], h0⟩ hz
          · omega
      rw [words_mid P R 0 hP, sumW_zero _ hall] at hk
      exact sumW_mem_pos _ 0 (by decide) wx ⟨x, by simp, by omega⟩
  rw [words_mid P R 0 hP] at m0
  rw [words_mid P R x hP] at mx
  simp only [List.sum_append, List.sum_cons] at m0 mx
  rw [words_mid P R 0 hP] at r0 hk
  rw [words_mid P R x hP] at rx px ⊢
  generalize sumW 0 (wordsL P ++ 0 :: wordsL R) = a at *
  generalize sumW 0 (wordsL P ++ x :: wordsL R) = b at *
  generalize (wordsL P).sum = u at *
  generalize (wordsL R).sum = v at *
  omega
theorem icL_length (ph : Int → List Int) (m : Msg) : (icL ph m).length = 8 + m.body.length := by unfold icL; rw [List.length_append]; rfl
theorem icH_cut (m : Msg) (k : Int) (xs : List Int) : icH m k ++ xs = [m.ty, m.code] ++ (w2 k ++ ([m.rest / 16777216, m.rest / 65536 % 256, m.rest / 256 % 256, m.rest % 256] ++ xs)) := rfl
/-- A pseudo header as it must be. -/
structure PhI (ph : Int → List Int) : Prop where
  fit : ∀ n : Int, 0 ≤ n ∧ n ≤ 65535 → Fit (ph n)
  even : ∀ n, (ph n).length % 2 = 0
theorem phN_ok : PhI phN := ⟨fun n _ => phN_fit n, fun n => rfl⟩
theorem ph6I_ok {A B : List Int} (la : A.length = 16) (lb : B.length = 16) (fa : Fit A) (fb : Fit B) : PhI (ph6I A B) := ⟨ph6I_fit fa fb, fun n => by simp [ph6I, ph6, la, lb]⟩
theorem icL_fit {ph : Int → List Int} (h : PhI ph) {w : World} {c : List Value} {m : Msg} (hm : MsgC w c m) (hn : 8 + m.body.length ≤ 65535) : Fit (icL ph m) := by
  obtain ⟨vb, _, hb⟩ := hm.val
  exact (icH_fit hm (icK_range hm (h.fit _ (by omega)))).append hb.fit
theorem ic_sum {ph : Int → List Int} (h : PhI ph) {w : World} {c : List Value} {m : Msg} (hm : MsgC w c m) (hn : 8 + m.body.length ≤ 65535) :
    sumW 0 (wordsL (ph (icL ph m).length ++ icL ph m)) = 65535 := by
  have hl : ((icL ph m).length : Int) = 8 + (m.body.length : Int) := by rw [icL_length]; omega
  rw [hl]
  obtain ⟨vb, _, hb⟩ := hm.val
  have ft := hm.ft
  have fc := hm.fc
  have fr := hm.fr
  have hk : icK ph m = 65535 - sumW 0 (wordsL ((ph (8 + (m.body.length : Int)) ++ [m.ty, m.code]) ++ (w2 0 ++ ([m.rest / 16777216, m.rest / 65536 % 256, m.rest / 256 % 256, m.rest % 256] ++ m.body)))) := by
    unfold icK
    rw [icH_cut, List.append_assoc]
  have hgo := fill_sum0 (ph (8 + (m.body.length : Int)) ++ [m.ty, m.code]) ([m.rest / 16777216, m.rest / 65536 % 256, m.rest / 256 % 256, m.rest % 256] ++ m.body) (by have := h.even (8 + (m.body.length : Int)); simp; omega)
    ((h.fit _ (by omega)).append (fun z hz => by simp at hz; rcases hz with rfl | rfl <;> omega)) (Fit.append (fun z hz => by simp at hz; rcases hz with rfl | rfl | rfl | rfl <;> omega) hb.fit) _ hk
  unfold icL
  rw [icH_cut, ← List.append_assoc]
  exact hgo
theorem ic_back {ph : Int → List Int} (h : PhI ph) {w : World} {c : List Value} {m : Msg} (hm : MsgC w c m) (hn : 8 + m.body.length ≤ 65535) :
    pE ph (icL ph m) = 0 ∧ pM ph (icL ph m) = m := by
  have hl := icL_length ph m
  have hE : pE ph (icL ph m) = 0 := by rw [pE_more (by omega) (by omega), if_pos (ic_sum h hm hn)]
  refine ⟨hE, ?_⟩
  unfold pM
  rw [if_pos hE]
  have fr := hm.fr
  obtain ⟨ty, code, rest, body⟩ := m
  dsimp only at *
  have e : rstL (icL ph ⟨ty, code, rest, body⟩) = rest := by
    show ((rest / 16777216 * 256 + rest / 65536 % 256) * 256 + rest / 256 % 256) * 256 + rest % 256 = rest
    omega
  rw [e]
  rfl
end Go.Proofs.YtpgnnplpcalbbaaGreat.Icm
namespace Go.Proofs.YtpgnnplpcalbbaaGreat.Icm
open Go Go.RowKit Go.Shelf
def cutM (m : Msg) : Msg := ⟨m.ty, m.code, m.rest, m.body.take 70000⟩
end Go.Proofs.YtpgnnplpcalbbaaGreat.Icm
namespace Go.Proofs.YtpgnnplpcalbbaaGreat.Icm
open Go Go.RowKit Go.ChangeShapes Go.WideShapes Go.ChangeAt
theorem wp_parts2 {o : Oper} {a : Act} {d : Option Nat} {w : World} {K : Act → World → Prop} {Q : Exit → Act → World → Prop} (p0 p1 : Operand) (hop : o.op = Op.buildSlice 127 2 #[(0, p0), (1, p1)]) (hd : o.dst = d) {v0 v1 : Value} (h0 : a.eval p0 = v0) (h1 : a.eval p1 = v1)
    (s0 : ∃ x n m, v0 = .slice x n m) (s1 : ∃ x n m, v1 = .slice x n m)
    (hK : K (a.put d (.slice (some ⟨w.heap.size, 0, none⟩) 2 2)) (w.alloc (.cells #[v0, v1] 25))) : o.wp Tryz.prog a w K Q := by
  obtain ⟨x0, n0, m0, rfl⟩ := s0
  obtain ⟨x1, n1, m1, rfl⟩ := s1
  subst hd
  unfold Oper.wp
  generalize hev : a.eval = ev at *
  simp [execOp, hop, h0, h1, go_sem]
  exact hK
end Go.Proofs.YtpgnnplpcalbbaaGreat.Icm
