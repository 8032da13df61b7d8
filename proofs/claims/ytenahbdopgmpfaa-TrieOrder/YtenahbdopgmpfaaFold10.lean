/-
  Keys (rows of bits), trees of them and lists of entries, plainly.
  Keys as bytes.
-/
import Derived.Test.YtenahbdopgmpfaaRows
import Derived.Test.YtenahbdopgmpfaaSixM
namespace Go.Proofs.Ytenahbdopgmpfaa
set_option linter.unusedVariables false
set_option linter.unusedSimpArgs false

abbrev Bs := List Bool
abbrev Ent := Bs × Int

/-- The order of keys. -/
def ltB : Bs → Bs → Bool
  | [], [] => false
  | [], _ :: _ => true
  | _ :: _, [] => false
  | x :: xs, y :: ys => if x = y then ltB xs ys else !x && y

theorem ltB_irr (a : Bs) : ltB a a = false := by
  induction a with
  | nil => rfl
  | cons x xs ih => simp [ltB, ih]
theorem ltB_asym : ∀ {a b : Bs}, ltB a b = true → ltB b a = false
  | [], [], h => by simp [ltB] at h
  | [], _ :: _, _ => rfl
  | _ :: _, [], h => by simp [ltB] at h
  | x :: xs, y :: ys, h => by
    by_cases c : x = y
    · subst c
      simp only [ltB, if_true] at h ⊢
      exact ltB_asym h
    · simp only [ltB, if_neg c, if_neg (Ne.symm c)] at h ⊢
      revert h; cases x <;> cases y <;> simp
theorem ltB_tri : ∀ {a b : Bs}, ltB a b = false → a ≠ b → ltB b a = true
  | [], [], _, h => absurd rfl h
  | [], _ :: _, h, _ => by simp [ltB] at h
  | _ :: _, [], _, _ => rfl
  | x :: xs, y :: ys, h, hn => by
    by_cases c : x = y
    · subst c
      simp only [ltB, if_true] at h ⊢
      exact ltB_tri h (fun e => hn (by rw [e]))
    · simp only [ltB, if_neg c, if_neg (Ne.symm c)] at h ⊢
      revert h c; cases x <;> cases y <;> simp
theorem ltB_trans : ∀ {a b c : Bs}, ltB a b = true → ltB b c = true → ltB a c = true
  | [], [], _, h, _ => by simp [ltB] at h
  | [], _ :: _, [], _, h => by simp [ltB] at h
  | [], _ :: _, _ :: _, _, _ => rfl
  | _ :: _, [], _, h, _ => by simp [ltB] at h
  | _ :: _, _ :: _, [], _, h => by simp [ltB] at h
  | x :: xs, y :: ys, z :: zs, h, g => by
    simp only [ltB] at h g ⊢
    by_cases c : x = y
    · subst c
      simp only [if_true] at h
      by_cases d : x = z
      · subst d
        simp only [if_true] at g ⊢
        exact ltB_trans h g
      · simp only [if_neg d] at g ⊢
        exact g
    · simp only [if_neg c] at h
      by_cases d : y = z
      · subst d
        simp only [if_neg c]
        exact h
      · simp only [if_neg d] at g
        revert h g c d; cases x <;> cases y <;> cases z <;> simp
theorem ltB_pre : ∀ {a b : Bs}, a <+: b → a ≠ b → ltB a b = true
  | [], [], _, h => absurd rfl h
  | [], _ :: _, _, _ => rfl
  | x :: xs, [], h, _ => by simp at h
  | x :: xs, y :: ys, h, hn => by
    rw [List.cons_prefix_cons] at h
    obtain ⟨rfl, h⟩ := h
    simp only [ltB, if_true]
    exact ltB_pre h (fun e => hn (by rw [e]))
theorem ltB_part : ∀ {f a b : Bs}, f ++ [false] <+: a → f ++ [true] <+: b → ltB a b = true
  | [], a, b, h, g => by
    obtain ⟨u, rfl⟩ := h
    obtain ⟨v, rfl⟩ := g
    rfl
  | x :: xs, [], _, h, _ => by simp at h
  | x :: xs, _ :: _, [], _, g => by simp at g
  | x :: xs, y :: ys, z :: zs, h, g => by
    rw [List.cons_append, List.cons_prefix_cons] at h g
    obtain ⟨rfl, h⟩ := h
    obtain ⟨rfl, g⟩ := g
    simp only [ltB, if_true]
    exact ltB_part h g

/-- Prefixes. -/
def pre (a b : Bs) : Bool := decide (a <+: b)
theorem pre_iff {a b : Bs} : pre a b = true ↔ a <+: b := by simp [pre]
theorem pre_false {a b : Bs} : pre a b = false ↔ ¬ a <+: b := by simp [pre]
theorem pre_meet {a b c : Bs} (h : a <+: c) (g : b <+: c) : a <+: b ∨ b <+: a := List.prefix_or_prefix_of_prefix h g
theorem pre_anti {a b : Bs} (h : a <+: b) (g : b.length ≤ a.length) : a = b := h.eq_of_length_le g

/-- What two keys begin with both. -/
def lcp : Bs → Bs → Bs
  | x :: xs, y :: ys => if x = y then x :: lcp xs ys else []
  | _, _ => []
theorem lcp_nil (a : Bs) : lcp a [] = [] := by cases a <;> rfl
theorem lcp_fst : ∀ a b : Bs, lcp a b <+: a
  | [], b => by simp [lcp]
  | x :: xs, [] => by simp [lcp]
  | x :: xs, y :: ys => by
    simp only [lcp]
    split
    · exact (List.cons_prefix_cons).2 ⟨rfl, lcp_fst xs ys⟩
    · exact List.nil_prefix
theorem lcp_snd : ∀ a b : Bs, lcp a b <+: b
  | [], b => by simp [lcp]
  | x :: xs, [] => by simp [lcp]
  | x :: xs, y :: ys => by
    simp only [lcp]
    split
    · next h => exact (List.cons_prefix_cons).2 ⟨h, lcp_snd xs ys⟩
    · exact List.nil_prefix
theorem lcp_most : ∀ {p a b : Bs}, p <+: a → p <+: b → p <+: lcp a b
  | [], a, b, _, _ => List.nil_prefix
  | x :: xs, [], b, h, _ => by simp at h
  | x :: xs, y :: ys, [], _, h => by simp at h
  | x :: xs, y :: ys, z :: zs, h, g => by
    rw [List.cons_prefix_cons] at h g
    obtain ⟨rfl, h⟩ := h
    obtain ⟨rfl, g⟩ := g
    simp only [lcp, if_true]
    exact (List.cons_prefix_cons).2 ⟨rfl, lcp_most h g⟩

/-- The bit of a key behind another. -/
def nxtB (f p : Bs) : Bool := p[f.length]?.getD false
theorem pre_next {f p : Bs} (h : f <+: p) (hn : p.length ≠ f.length) : f ++ [nxtB f p] <+: p := by
  obtain ⟨u, rfl⟩ := h
  cases u with
  | nil => simp at hn
  | cons x xs => exact ⟨xs, by simp [nxtB]⟩
theorem pre_len {f p : Bs} (h : f <+: p) (hn : p.length = f.length) : f = p := h.eq_of_length_le (by omega)
theorem lcp_part {a b : Bs} (h1 : (lcp a b).length ≠ a.length) (h2 : (lcp a b).length ≠ b.length) : nxtB (lcp a b) a ≠ nxtB (lcp a b) b := by
  intro e
  have g1 := pre_next (lcp_fst a b) (fun e => h1 e.symm)
  have g2 := pre_next (lcp_snd a b) (fun e => h2 e.symm)
  rw [e] at g1
  have := (lcp_most g1 g2).length_le
  simp at this <;> omega

/-- Trees. -/
inductive Tr where
  | nil
  | leaf (k : Bs) (v : Int)
  | fork (k : Bs) (a b c : Tr)
namespace Tr
def top : Tr → Bs
  | nil => []
  | leaf k _ => k
  | fork k _ _ _ => k
def ents : Tr → List Ent
  | nil => []
  | leaf k v => [(k, v)]
  | fork _ a b c => a.ents ++ (b.ents ++ c.ents)
def isNil : Tr → Bool
  | nil => true
  | _ => false
def some1 (t : Tr) : Nat := if t.isNil then 0 else 1
def Und (p : Bs) (t : Tr) : Prop := t.isNil = false → p <+: t.top
def wf : Tr → Prop
  | nil => True
  | leaf _ _ => True
  | fork f a b c => (a.isNil = true ∨ ∃ v, a = leaf f v) ∧ b.wf ∧ c.wf ∧ b.Und (f ++ [false]) ∧ c.Und (f ++ [true]) ∧ 2 ≤ a.some1 + b.some1 + c.some1
theorem nil_of {t : Tr} (h : t.isNil = true) : t = nil := by cases t <;> simp [isNil] at h ⊢
theorem nil_ents {t : Tr} (h : t.isNil = true) : t.ents = [] := by rw [nil_of h]; rfl

/-- The place of a key among a fork's kids. -/
def sd (f p : Bs) : Nat := if p.length = f.length then 0 else if nxtB f p then 2 else 1
theorem sd_lt (f p : Bs) : sd f p < 3 := by unfold sd; split <;> (try split) <;> omega
def setK (f : Bs) (a b c : Tr) (i : Nat) (t : Tr) : Tr := if i = 0 then fork f t b c else if i = 1 then fork f a t c else fork f a b t
def getK (a b c : Tr) (i : Nat) : Tr := if i = 0 then a else if i = 1 then b else c
def parted (n : Tr) (k : Bs) (v : Int) : Tr :=
  match setK (lcp n.top k) nil nil nil (sd (lcp n.top k) n.top) n with
  | fork f a b c => setK f a b c (sd (lcp n.top k) k) (leaf k v)
  | t => t
def put : Tr → Bs → Int → Tr
  | nil, k, v => leaf k v
  | leaf k' v', k, v => if k' = k then leaf k v else parted (leaf k' v') k v
  | fork f a b c, k, v => if pre f k then (if sd f k = 0 then fork f (a.put k v) b c else if sd f k = 1 then fork f a (b.put k v) c else fork f a b (c.put k v)) else parted (fork f a b c) k v
def slim : Tr → Tr
  | fork f a b c => if a.some1 + b.some1 + c.some1 = 1 then (if c.isNil then (if b.isNil then a else b) else c) else fork f a b c
  | t => t
def del : Tr → Bs → Tr
  | fork f a b c, k => slim (if sd f k = 0 then fork f (a.del k) b c else if sd f k = 1 then fork f a (b.del k) c else fork f a b (c.del k))
  | _, _ => nil
def walk (w : Bs → Bool) : Tr → List Ent
  | nil => []
  | leaf k v => if w k then [(k, v)] else []
  | fork f a b c => if w f then a.walk w ++ (b.walk w ++ c.walk w) else []
end Tr
open Tr

theorem top_pre {t : Tr} (h : t.wf) : ∀ e ∈ t.ents, t.top <+: e.1 := by
  induction t with
  | nil => intro e he; simp [ents] at he
  | leaf k v => intro e he; simp [ents] at he; subst he; exact List.prefix_refl _
  | fork f a b c iha ihb ihc =>
    obtain ⟨ha, hb, hc, ub, uc, -⟩ := h
    intro e he
    simp only [ents, List.mem_append] at he
    rcases he with he | he | he
    · rcases ha with ha | ⟨v, rfl⟩
      · rw [nil_ents ha] at he; simp at he
      · simp [ents] at he; subst he; exact List.prefix_refl _
    · by_cases n : b.isNil = true
      · rw [nil_ents n] at he; simp at he
      · exact ((List.prefix_append f [false]).trans (ub (by simpa using n))).trans (ihb hb e he)
    · by_cases n : c.isNil = true
      · rw [nil_ents n] at he; simp at he
      · exact ((List.prefix_append f [true]).trans (uc (by simpa using n))).trans (ihc hc e he)
theorem und_ents {t : Tr} {p : Bs} (h : t.wf) (u : t.Und p) : ∀ e ∈ t.ents, p <+: e.1 := by
  intro e he
  by_cases n : t.isNil = true
  · rw [nil_ents n] at he; simp at he
  · exact (u (by simpa using n)).trans (top_pre h e he)

/-- In order. -/
def Srt (l : List Ent) : Prop := l.Pairwise (fun x y => ltB x.1 y.1 = true)
theorem ents_srt {t : Tr} (h : t.wf) : Srt t.ents := by
  induction t with
  | nil => simp [ents, Srt]
  | leaf k v => simp [ents, Srt]
  | fork f a b c iha ihb ihc =>
    obtain ⟨ha, hb, hc, ub, uc, -⟩ := h
    have eb := und_ents hb ub
    have ec := und_ents hc uc
    have ea : ∀ e ∈ a.ents, e.1 = f := by
      rcases ha with ha | ⟨v, rfl⟩
      · intro e he; rw [nil_ents ha] at he; simp at he
      · intro e he; simp [ents] at he; subst he; rfl
    have sa : Srt a.ents := by
      rcases ha with ha | ⟨v, rfl⟩
      · rw [nil_ents ha]; simp [Srt]
      · simp [ents, Srt]
    have hh : ∀ (x : Bool) (k : Bs), f ++ [x] <+: k → ltB f k = true := fun x k hk => ltB_pre ((List.prefix_append f [x]).trans hk) (by
      rintro rfl
      have := hk.length_le
      simp at this <;> omega)
    unfold Srt at *
    simp only [ents]
    rw [List.pairwise_append, List.pairwise_append]
    refine ⟨sa, ⟨ihb hb, ihc hc, fun x hx y hy => ltB_part (eb x hx) (ec y hy)⟩, fun x hx y hy => ?_⟩
    rw [ea x hx]
    rcases List.mem_append.1 hy with hy | hy
    · exact hh _ _ (eb y hy)
    · exact hh _ _ (ec y hy)

/-- An entry more. -/
def ins (k : Bs) (v : Int) : List Ent → List Ent
  | [] => [(k, v)]
  | e :: r => if ltB e.1 k then e :: ins k v r else if e.1 = k then (k, v) :: r else (k, v) :: e :: r
theorem ins_left {k : Bs} {v : Int} : ∀ {A B : List Ent}, (∀ e ∈ A, ltB e.1 k = true) → ins k v (A ++ B) = A ++ ins k v B
  | [], B, _ => rfl
  | a :: A, B, h => by
    rw [List.cons_append, ins, if_pos (h a (by simp)), ins_left (fun e he => h e (by simp [he]))]
    rfl
theorem ins_right {k : Bs} {v : Int} : ∀ {A B : List Ent}, (∀ e ∈ B, ltB k e.1 = true) → ins k v (A ++ B) = ins k v A ++ B
  | [], [], _ => rfl
  | [], b :: B, h => by
    have := h b (by simp)
    have h1 : ¬ ltB b.1 k = true := by rw [ltB_asym this]; decide
    have h2 : ¬ b.1 = k := by rintro rfl; rw [ltB_irr] at this; exact absurd this (by decide)
    simp [ins, h1, h2]
  | a :: A, B, h => by
    rw [List.cons_append, ins, ins, ins_right h]
    split
    · rfl
    · split <;> rfl

theorem sd_zero {f p : Bs} (h : p.length = f.length) : sd f p = 0 := by simp [sd, h]
theorem sd_no {f p : Bs} (h : p.length ≠ f.length) : sd f p = if nxtB f p then 2 else 1 := by simp [sd, h]

/-- Below a fork. -/
theorem parted_ok {n : Tr} {k : Bs} {v : Int} (hw : n.wf) (hnil : n.isNil = false) (hno : ¬ (n.top <+: k) ∨ (∃ k' v', n = leaf k' v' ∧ k' ≠ k)) (hf : ∀ f a b c, n = fork f a b c → ¬ f <+: k) :
    (parted n k v).wf ∧ (parted n k v).ents = ins k v n.ents ∧ (parted n k v).top = lcp n.top k ∧ (parted n k v).isNil = false := by
  have hne : n.top ≠ k := by
    rcases hno with h | ⟨k', v', rfl, h⟩
    · exact fun e => h (by rw [e]; exact List.prefix_refl _)
    · exact h
  have g1 := lcp_fst n.top k
  have g2 := lcp_snd n.top k
  have hp := @lcp_part n.top k
  have htop : n.top.length = (lcp n.top k).length → ∃ v', n = leaf (lcp n.top k) v' := by
    intro h
    have e := pre_len g1 h
    cases n with
    | nil => simp [isNil] at hnil
    | leaf k' v' => exact ⟨v', by simp only [top] at e ⊢; rw [e]⟩
    | fork f a b c => exact absurd (by simp only [top] at e g2; rw [e] at g2; exact g2) (hf f a b c rfl)
  have ht := top_pre hw
  have hs1 : n.some1 = 1 := by simp [some1, hnil]
  generalize hF : lcp n.top k = F at *
  have hno2 : ¬ (n.top.length = F.length ∧ k.length = F.length) := by
    rintro ⟨h1, h2⟩
    exact hne ((pre_len g1 h1).symm.trans (pre_len g2 h2))
  by_cases c1 : n.top.length = F.length
  · obtain ⟨v', e⟩ := htop c1
    have c2 : k.length ≠ F.length := fun h => hno2 ⟨c1, h⟩
    have q2 := pre_next g2 c2
    have hlt : ltB F k = true := ltB_pre g2 (fun e => c2 (by rw [e]))
    have hpar : parted n k v = if nxtB F k then fork F n nil (leaf k v) else fork F n (leaf k v) nil := by
      simp only [parted, hF, sd_zero c1, setK, sd_no c2]
      by_cases x : nxtB F k = true
      · simp [x]
      · simp [x]
    rw [hpar]
    have hi : ins k v n.ents = n.ents ++ [(k, v)] := by
      have := ins_left (A := n.ents) (B := []) (k := k) (v := v) (by rw [e]; intro x hx; simp [ents] at hx; subst hx; exact hlt)
      simpa [ins] using this
    by_cases x : nxtB F k = true
    · rw [if_pos x]
      rw [x] at q2
      refine ⟨⟨.inr ⟨v', e⟩, trivial, trivial, fun h => by simp [isNil] at h, fun _ => q2, by rw [hs1]; simp [some1, isNil]⟩, ?_, rfl, rfl⟩
      rw [hi]; simp [ents]
    · rw [if_neg x]
      rw [Bool.not_eq_true] at x
      rw [x] at q2
      refine ⟨⟨.inr ⟨v', e⟩, trivial, trivial, fun _ => q2, fun h => by simp [isNil] at h, by rw [hs1]; simp [some1, isNil]⟩, ?_, rfl, rfl⟩
      rw [hi]; simp [ents]
  · have q1 := pre_next g1 c1
    by_cases c2 : k.length = F.length
    · have eF := pre_len g2 c2
      have hpar : parted n k v = if nxtB F n.top then fork F (leaf k v) nil n else fork F (leaf k v) n nil := by
        simp only [parted, hF, sd_zero c2, setK, sd_no c1]
        by_cases x : nxtB F n.top = true
        · simp [x]
        · simp [x]
      rw [hpar]
      have hi : ins k v n.ents = (k, v) :: n.ents := by
        have := ins_right (A := []) (B := n.ents) (k := k) (v := v) (fun e he => by
          have h := q1.trans (ht e he)
          rw [← eF]
          exact ltB_pre ((List.prefix_append F _).trans h) (by
            intro e9
            have := h.length_le
            rw [← e9] at this
            simp at this <;> omega))
        simpa [ins] using this
      by_cases x : nxtB F n.top = true
      · rw [if_pos x]
        rw [x] at q1
        refine ⟨⟨.inr ⟨v, by rw [eF]⟩, trivial, hw, fun h => by simp [isNil] at h, fun _ => q1, by rw [hs1]; simp [some1, isNil]⟩, ?_, rfl, rfl⟩
        rw [hi]; simp [ents]
      · rw [if_neg x]
        rw [Bool.not_eq_true] at x
        rw [x] at q1
        refine ⟨⟨.inr ⟨v, by rw [eF]⟩, hw, trivial, fun _ => q1, fun h => by simp [isNil] at h, by rw [hs1]; simp [some1, isNil]⟩, ?_, rfl, rfl⟩
        rw [hi]; simp [ents]
    · have q2 := pre_next g2 c2
      have hd : nxtB F n.top ≠ nxtB F k := by
        exact hp (fun e => c1 e.symm) (fun e => c2 e.symm)
      have hpar : parted n k v = if nxtB F k then fork F nil n (leaf k v) else fork F nil (leaf k v) n := by
        simp only [parted, hF, setK, sd_no c1, sd_no c2]
        cases x : nxtB F k <;> cases y : nxtB F n.top <;> simp_all
      rw [hpar]
      by_cases x : nxtB F k = true
      · rw [if_pos x]
        have y : nxtB F n.top = false := by rw [x] at hd; simpa using hd
        rw [x] at q2
        rw [y] at q1
        have hi : ins k v n.ents = n.ents ++ [(k, v)] := by
          have := ins_left (A := n.ents) (B := []) (k := k) (v := v) (fun e he => ltB_part (q1.trans (ht e he)) q2)
          simpa [ins] using this
        refine ⟨⟨.inl rfl, hw, trivial, fun _ => q1, fun _ => q2, by rw [hs1]; simp [some1, isNil]⟩, ?_, rfl, rfl⟩
        rw [hi]; simp [ents]
      · rw [if_neg x]
        rw [Bool.not_eq_true] at x
        have y : nxtB F n.top = true := by rw [x] at hd; simpa using hd
        rw [x] at q2
        rw [y] at q1
        have hi : ins k v n.ents = (k, v) :: n.ents := by
          have := ins_right (A := []) (B := n.ents) (k := k) (v := v) (fun e he => ltB_part q2 (q1.trans (ht e he)))
          simpa [ins] using this
        refine ⟨⟨.inl rfl, trivial, hw, fun _ => q2, fun _ => q1, by rw [hs1]; simp [some1, isNil]⟩, ?_, rfl, rfl⟩
        rw [hi]; simp [ents]

theorem put_ok {t : Tr} {k : Bs} {v : Int} (h : t.wf) : (t.put k v).wf ∧ (t.put k v).ents = ins k v t.ents ∧ (t.put k v).isNil = false ∧ ∀ p, t.Und p → p <+: k → p <+: (t.put k v).top := by
  induction t with
  | nil => exact ⟨trivial, rfl, rfl, fun p _ hk => hk⟩
  | leaf k' v' =>
    by_cases c : k' = k
    · simp only [put, if_pos c]
      subst c
      exact ⟨trivial, by simp [ents, ins, ltB_irr], rfl, fun p _ hk => hk⟩
    · simp only [put, if_neg c]
      obtain ⟨p1, p2, p3, p4⟩ := parted_ok (n := leaf k' v') (k := k) (v := v) trivial rfl (.inr ⟨k', v', rfl, c⟩) (fun f a b c h => by cases h)
      exact ⟨p1, p2, p4, fun p hu hk => by rw [p3]; exact lcp_most (hu rfl) hk⟩
  | fork f a b c iha ihb ihc =>
    obtain ⟨ha, hb, hc, ub, uc, hs⟩ := h
    by_cases hp : pre f k = true
    · have hfk := pre_iff.1 hp
      simp only [put, if_pos hp]
      have eb := und_ents hb ub
      have ec := und_ents hc uc
      have ea : ∀ e ∈ a.ents, e.1 = f := by
        rcases ha with ha | ⟨v, rfl⟩
        · intro e he; rw [nil_ents ha] at he; simp at he
        · intro e he; simp [ents] at he; subst he; rfl
      have hh : ∀ (x : Bool) (k : Bs), f ++ [x] <+: k → ltB f k = true := fun x k hk => ltB_pre ((List.prefix_append f [x]).trans hk) (by
        rintro rfl
        have := hk.length_le
        simp at this <;> omega)
      have hsome : ∀ t : Tr, t.some1 ≤ 1 := fun t => by unfold some1; split <;> omega
      have hone : ∀ t : Tr, t.isNil = false → t.some1 = 1 := fun t h => by simp [some1, h]
      by_cases c0 : k.length = f.length
      · have e := pre_len hfk c0
        subst e
        rw [if_pos (sd_zero rfl)]
        have e1 : ∀ v', (a = leaf f v' ∨ a.isNil = true) → a.put f v = leaf f v := by
          rintro v' (rfl | h)
          · simp [put]
          · rw [nil_of h]; rfl
        have e2 : a.put f v = leaf f v := by
          rcases ha with h | ⟨v', h⟩
          · exact e1 0 (.inr h)
          · exact e1 v' (.inl h)
        rw [e2]
        refine ⟨⟨.inr ⟨v, rfl⟩, hb, hc, ub, uc, ?_⟩, ?_, rfl, fun p hu _ => hu rfl⟩
        · have := hsome a
          have : (leaf f v).some1 = 1 := rfl
          omega
        · simp only [ents]
          rw [ins_right (A := a.ents) (fun e he => ?_)]
          · congr 1
            rcases ha with h | ⟨v', rfl⟩
            · rw [nil_ents h]; rfl
            · simp [ents, ins, ltB_irr]
          · rcases List.mem_append.1 he with he | he
            · exact hh _ _ (eb e he)
            · exact hh _ _ (ec e he)
      · have q := pre_next hfk c0
        rw [sd_no c0]
        have hak : ∀ e ∈ a.ents, ltB e.1 k = true := fun e he => by rw [ea e he]; exact hh _ _ q
        by_cases x : nxtB f k = true
        · rw [x] at q
          simp only [if_pos x, show ¬ (2 = 0) by decide, show ¬ (2 = 1) by decide, if_false]
          obtain ⟨r1, r2, r3, r4⟩ := ihc hc
          refine ⟨⟨ha, hb, r1, ub, fun _ => r4 _ uc q, ?_⟩, ?_, rfl, fun p hu _ => hu rfl⟩
          · have := hone _ r3; have := hsome c; omega
          · simp only [ents]
            rw [ins_left hak, ins_left (fun e he => ltB_part (eb e he) q), r2]
        · rw [Bool.not_eq_true] at x
          rw [x] at q
          simp only [x, show ¬ (1 = 0) by decide, if_false, Bool.false_eq_true, if_true]
          obtain ⟨r1, r2, r3, r4⟩ := ihb hb
          refine ⟨⟨ha, r1, hc, fun _ => r4 _ ub q, uc, ?_⟩, ?_, rfl, fun p hu _ => hu rfl⟩
          · have := hone _ r3; have := hsome b; omega
          · simp only [ents]
            rw [ins_left hak, ins_right (fun e he => ltB_part q (ec e he)), r2]
    · simp only [put, if_neg hp]
      have hp' : ¬ f <+: k := fun h => hp (pre_iff.2 h)
      obtain ⟨p1, p2, p3, p4⟩ := parted_ok (n := fork f a b c) (k := k) (v := v) ⟨ha, hb, hc, ub, uc, hs⟩ rfl (.inl hp') (fun f' a' b' c' h => by cases h; exact hp')
      exact ⟨p1, p2, p4, fun p hu hk => by rw [p3]; exact lcp_most (hu rfl) hk⟩

/-- An entry less. -/
def outs (k : Bs) (l : List Ent) : List Ent := l.filter (fun e => e.1 ≠ k)
theorem outs_none {k : Bs} {l : List Ent} (h : ∀ e ∈ l, e.1 ≠ k) : outs k l = l := by
  unfold outs
  rw [List.filter_eq_self]
  exact fun e he => by simpa using h e he
theorem outs_app (k : Bs) (a b : List Ent) : outs k (a ++ b) = outs k a ++ outs k b := by simp [outs]

theorem slim_ok {f : Bs} {a b c : Tr} (ha : a.isNil = true ∨ ∃ v, a = leaf f v) (hb : b.wf) (hc : c.wf) (ub : b.Und (f ++ [false])) (uc : c.Und (f ++ [true])) (hs : 1 ≤ a.some1 + b.some1 + c.some1) :
    (slim (fork f a b c)).wf ∧ (slim (fork f a b c)).ents = (fork f a b c).ents ∧ f <+: (slim (fork f a b c)).top := by
  simp only [slim]
  by_cases h : a.some1 + b.some1 + c.some1 = 1
  · rw [if_pos h]
    have hz : ∀ t : Tr, t.some1 = if t.isNil then 0 else 1 := fun t => rfl
    rw [hz, hz, hz] at h
    have hwa : a.wf := by
      rcases ha with h | ⟨v, rfl⟩
      · rw [nil_of h]; trivial
      · trivial
    by_cases nc : c.isNil = true
    · by_cases nb : b.isNil = true
      · rw [if_pos nc, if_pos nb]
        have na : a.isNil = false := by
          cases x : a.isNil
          · rfl
          · simp [x, nb, nc] at h
        refine ⟨hwa, by simp [ents, nil_ents nb, nil_ents nc], ?_⟩
        rcases ha with h9 | ⟨v, rfl⟩
        · rw [na] at h9; exact absurd h9 (by decide)
        · exact List.prefix_refl _
      · rw [if_pos nc, if_neg nb]
        have na : a.isNil = true := by
          cases x : a.isNil
          · simp [x, nb, nc] at h
          · rfl
        exact ⟨hb, by simp [ents, nil_ents na, nil_ents nc], (List.prefix_append f _).trans (ub (by simpa using nb))⟩
    · rw [if_neg nc]
      have na : a.isNil = true := by
        cases x : a.isNil
        · simp [x, nc] at h
        · rfl
      have nb : b.isNil = true := by
        cases x : b.isNil
        · simp [x, na, nc] at h
        · rfl
      exact ⟨hc, by simp [ents, nil_ents na, nil_ents nb], (List.prefix_append f _).trans (uc (by simpa using nc))⟩
  · rw [if_neg h]
    exact ⟨⟨ha, hb, hc, ub, uc, by omega⟩, rfl, List.prefix_refl _⟩

theorem del_ok {t : Tr} {k : Bs} (h : t.wf) (hk : ∃ v, (k, v) ∈ t.ents) : (t.del k).wf ∧ (t.del k).ents = outs k t.ents ∧ ∀ p, t.Und p → (t.del k).Und p := by
  induction t with
  | nil => obtain ⟨v, hv⟩ := hk; simp [ents] at hv
  | leaf k' v' =>
    obtain ⟨v, hv⟩ := hk
    simp [ents] at hv
    obtain ⟨rfl, rfl⟩ := hv
    exact ⟨trivial, by simp [del, ents, outs], fun p _ h => by simp [del, isNil] at h⟩
  | fork f a b c iha ihb ihc =>
    obtain ⟨ha, hb, hc, ub, uc, hs⟩ := h
    obtain ⟨v, hv⟩ := hk
    have hfk : f <+: k := top_pre (t := fork f a b c) ⟨ha, hb, hc, ub, uc, hs⟩ _ hv
    have eb := und_ents hb ub
    have ec := und_ents hc uc
    have ea : ∀ e ∈ a.ents, e.1 = f := by
      rcases ha with ha | ⟨v, rfl⟩
      · intro e he; rw [nil_ents ha] at he; simp at he
      · intro e he; simp [ents] at he; subst he; rfl
    have hlen : ∀ (x : Bool) (k : Bs), f ++ [x] <+: k → k.length ≠ f.length := fun x k hk e => by
      have := hk.length_le
      simp at this
      omega
    have hsome : ∀ t : Tr, t.some1 ≤ 1 := fun t => by unfold some1; split <;> omega
    have bit : ∀ {x y : Bool} {k : Bs}, f ++ [x] <+: k → f ++ [y] <+: k → x = y := fun {x y k} h g => by
      have := (pre_meet h g).elim (fun e => pre_anti e (by simp)) (fun e => (pre_anti e (by simp)).symm)
      simpa using this
    simp only [ents, List.mem_append] at hv
    simp only [del]
    by_cases c0 : k.length = f.length
    · have e := pre_len hfk c0
      subst e
      rw [if_pos (sd_zero rfl)]
      have ed : a.del f = nil := by
        rcases ha with h | ⟨v, rfl⟩
        · rw [nil_of h]; rfl
        · rfl
      rw [ed]
      have s1 := hsome a
      obtain ⟨g1, g2, g3⟩ := slim_ok (f := f) (a := nil) (.inl rfl) hb hc ub uc (by have : nil.some1 = 0 := rfl; omega)
      refine ⟨g1, ?_, fun p hu _ => (hu rfl).trans g3⟩
      rw [g2]
      simp only [ents, outs_app]
      rw [outs_none (l := b.ents) (fun e he => fun e9 => hlen _ _ (eb e he) (by rw [e9])), outs_none (l := c.ents) (fun e he => fun e9 => hlen _ _ (ec e he) (by rw [e9]))]
      have : outs f a.ents = [] := by
        unfold outs
        rw [List.filter_eq_nil_iff]
        exact fun e he => by simp [ea e he]
      rw [this]
    · have q := pre_next hfk c0
      rw [sd_no c0]
      have oa : outs k a.ents = a.ents := outs_none (fun e he => by rw [ea e he]; exact fun e9 => c0 (by rw [e9]))
      have na : (k, v) ∉ a.ents := fun h => c0 (by rw [← ea _ h])
      by_cases x : nxtB f k = true
      · rw [x] at q
        simp only [if_pos x, show ¬ (2 = 0) by decide, show ¬ (2 = 1) by decide, if_false]
        have nb : ∀ e ∈ b.ents, e.1 ≠ k := fun e he e9 => by have := bit (eb e he) (e9 ▸ q); simp at this
        have hv' : (k, v) ∈ c.ents := by
          rcases hv with h | h | h
          · exact absurd h na
          · exact absurd rfl (nb _ h)
          · exact h
        obtain ⟨r1, r2, r3⟩ := ihc hc ⟨v, hv'⟩
        have s1 := hsome c
        obtain ⟨g1, g2, g3⟩ := slim_ok (f := f) ha hb r1 ub (r3 _ uc) (by omega)
        refine ⟨g1, ?_, fun p hu _ => (hu rfl).trans g3⟩
        rw [g2]
        simp only [ents, outs_app]
        rw [oa, outs_none nb, r2]
      · rw [Bool.not_eq_true] at x
        rw [x] at q
        simp only [x, show ¬ (1 = 0) by decide, if_false, Bool.false_eq_true, if_true]
        have nc : ∀ e ∈ c.ents, e.1 ≠ k := fun e he e9 => by have := bit (ec e he) (e9 ▸ q); simp at this
        have hv' : (k, v) ∈ b.ents := by
          rcases hv with h | h | h
          · exact absurd h na
          · exact h
          · exact absurd rfl (nc _ h)
        obtain ⟨r1, r2, r3⟩ := ihb hb ⟨v, hv'⟩
        have s1 := hsome b
        obtain ⟨g1, g2, g3⟩ := slim_ok (f := f) ha r1 hc (r3 _ ub) uc (by omega)
        refine ⟨g1, ?_, fun p hu _ => (hu rfl).trans g3⟩
        rw [g2]
        simp only [ents, outs_app]
        rw [oa, outs_none nc, r2]

/-- Those that cover a key, those that it covers. -/
theorem walk_over {t : Tr} (h : t.wf) (p : Bs) : t.walk (fun k => pre k p) = t.ents.filter (fun e => pre e.1 p) := by
  induction t with
  | nil => rfl
  | leaf k v => by_cases c : pre k p = true <;> simp [walk, ents, c]
  | fork f a b c iha ihb ihc =>
    have ht := top_pre h
    obtain ⟨ha, hb, hc, ub, uc, hs⟩ := h
    have wa : a.wf := by
      rcases ha with h | ⟨v, rfl⟩
      · rw [nil_of h]; trivial
      · trivial
    by_cases hp : pre f p = true
    · simp only [walk, if_pos hp, ents, List.filter_append]
      rw [iha wa, ihb hb, ihc hc]
    · simp only [walk, if_neg hp]
      symm
      rw [List.filter_eq_nil_iff]
      intro e he h9
      exact hp (pre_iff.2 ((ht e he).trans (pre_iff.1 h9)))
theorem walk_under {t : Tr} (h : t.wf) (p : Bs) : (t.walk (fun k => pre p k || pre k p)).filter (fun e => pre p e.1) = t.ents.filter (fun e => pre p e.1) := by
  induction t with
  | nil => rfl
  | leaf k v => by_cases c : pre p k = true <;> by_cases d : pre k p = true <;> simp [walk, ents, c, d]
  | fork f a b c iha ihb ihc =>
    have ht := top_pre h
    obtain ⟨ha, hb, hc, ub, uc, hs⟩ := h
    have wa : a.wf := by
      rcases ha with h | ⟨v, rfl⟩
      · rw [nil_of h]; trivial
      · trivial
    by_cases hp : (pre p f || pre f p) = true
    · simp only [walk, if_pos hp, ents, List.filter_append]
      rw [iha wa, ihb hb, ihc hc]
    · simp only [walk, if_neg hp]
      symm
      rw [List.filter_nil, List.filter_eq_nil_iff]
      intro e he h9
      rcases pre_meet (ht e he) (pre_iff.1 h9) with g | g
      · exact hp (by rw [show pre f p = true from pre_iff.2 g]; simp)
      · exact hp (by rw [show pre p f = true from pre_iff.2 g]; simp)
end Go.Proofs.Ytenahbdopgmpfaa

namespace Go.Proofs.Ytenahbdopgmpfaa
open Go Go.RowKit
set_option linter.unusedVariables false
set_option linter.unusedSimpArgs false

def bt (k : Bs) (p : Nat) : Nat := (k[p]?.getD false).toNat
theorem bt_lt (k : Bs) (p : Nat) : bt k p < 2 := by unfold bt; cases k[p]?.getD false <;> decide
def byteV (k : Bs) (i : Nat) : Nat := bt k (8 * i) * 128 + bt k (8 * i + 1) * 64 + bt k (8 * i + 2) * 32 + bt k (8 * i + 3) * 16 + bt k (8 * i + 4) * 8 + bt k (8 * i + 5) * 4 + bt k (8 * i + 6) * 2 + bt k (8 * i + 7)
theorem byteV_lt (k : Bs) (i : Nat) : byteV k i < 256 := by
  unfold byteV
  have h0 := bt_lt k (8 * i); have h1 := bt_lt k (8 * i + 1); have h2 := bt_lt k (8 * i + 2); have h3 := bt_lt k (8 * i + 3)
  have h4 := bt_lt k (8 * i + 4); have h5 := bt_lt k (8 * i + 5); have h6 := bt_lt k (8 * i + 6); have h7 := bt_lt k (8 * i + 7)
  omega
theorem byteV_bit (k : Bs) (i j : Nat) (hj : j < 8) : bk (byteV k i) (7 - j) = bt k (8 * i + j) := by
  have h0 := bt_lt k (8 * i); have h1 := bt_lt k (8 * i + 1); have h2 := bt_lt k (8 * i + 2); have h3 := bt_lt k (8 * i + 3)
  have h4 := bt_lt k (8 * i + 4); have h5 := bt_lt k (8 * i + 5); have h6 := bt_lt k (8 * i + 6); have h7 := bt_lt k (8 * i + 7)
  unfold bk byteV
  rcases (by omega : j = 0 ∨ j = 1 ∨ j = 2 ∨ j = 3 ∨ j = 4 ∨ j = 5 ∨ j = 6 ∨ j = 7) with rfl | rfl | rfl | rfl | rfl | rfl | rfl | rfl <;> (try simp only [Nat.add_zero]) <;> omega
def bytN (n : Nat) (k : Bs) : List Int := (List.range n).map (fun i => ((byteV k i : Nat) : Int))
theorem bytN_length (n : Nat) (k : Bs) : (bytN n k).length = n := by simp [bytN]
theorem bytN_fit (n : Nat) (k : Bs) : FitB (bytN n k) := by
  intro z hz
  obtain ⟨i, -, rfl⟩ := List.mem_map.1 hz
  have := byteV_lt k i
  omega
theorem bytN_get (n : Nat) (k : Bs) (i : Nat) (hi : i < n) : (bytN n k)[i]? = some ((byteV k i : Nat) : Int) := by simp [bytN, hi]
theorem bitN_bytN (n : Nat) (k : Bs) (p : Nat) (hp : p < 8 * n) : bitN (bytN n k) p = bt k p := by
  unfold bitN
  rw [bytN_get _ _ _ (by omega)]
  simp only [Option.getD_some, Int.toNat_natCast]
  rw [byteV_bit _ _ _ (by omega)]
  congr 1
  omega
def bitsK (l : List Int) (n : Nat) : Bs := (List.range n).map (fun i => decide (bitN l i = 1))
theorem bitsK_length (l : List Int) (n : Nat) : (bitsK l n).length = n := by simp [bitsK]
theorem bt_bitsK (l : List Int) (n p : Nat) : bt (bitsK l n) p = if p < n then bitN l p else 0 := by
  unfold bt bitsK
  by_cases h : p < n
  · rw [if_pos h]
    have : (List.map (fun i => decide (bitN l i = 1)) (List.range n))[p]? = some (decide (bitN l p = 1)) := by simp [h]
    rw [this]
    have := bitN_lt l p
    rcases (by omega : bitN l p = 0 ∨ bitN l p = 1) with e | e <;> simp [e]
  · rw [if_neg h]
    have : (List.map (fun i => decide (bitN l i = 1)) (List.range n))[p]? = none := by simp; omega
    rw [this]; rfl
theorem key_of {m n : Nat} {l : List Int} (hf : FitB l) (hl : l.length = m) (hb : l = blR n l) : l = bytN m (bitsK l n) := by
  refine row_ext (by rw [bytN_length, hl]) hf (bytN_fit _ _) (fun p hp => ?_)
  rw [bitN_bytN _ _ _ (by omega), bt_bitsK]
  have := bitN_blR hf n p hp
  rwa [← hb] at this
theorem bt_take (k : Bs) (n p : Nat) : bt (k.take n) p = if p < n then bt k p else 0 := by
  unfold bt
  rw [List.getElem?_take]
  split <;> rfl
theorem blR_bytN (m n : Nat) (k : Bs) : blR n (bytN m k) = bytN m (k.take n) := by
  refine row_ext (by rw [blR_length, bytN_length, bytN_length]) (blR_fit (bytN_fit _ _)) (bytN_fit _ _) (fun p hp => ?_)
  rw [blR_length, bytN_length] at hp
  rw [bitN_blR (bytN_fit _ _) n p (by rw [bytN_length]; exact hp), bitN_bytN _ _ _ hp, bitN_bytN _ _ _ hp, bt_take]
theorem bt_inj {a b : Bs} (hl : a.length = b.length) (h : ∀ p, p < a.length → bt a p = bt b p) : a = b := by
  refine List.ext_getElem hl (fun p h1 h2 => ?_)
  have := h p h1
  unfold bt at this
  rw [List.getElem?_eq_getElem h1, List.getElem?_eq_getElem h2] at this
  revert this
  cases a[p] <;> cases b[p] <;> simp
theorem bytN_inj {m : Nat} {a b : Bs} (hl : a.length = b.length) (hm : a.length ≤ 8 * m) (e : bytN m a = bytN m b) : a = b :=
  bt_inj hl (fun p hp => by rw [← bitN_bytN m a p (by omega), e, bitN_bytN m b p (by omega)])

theorem okP6_byt {k : Bs} (h : k.length ≤ 128) : okP6 (bytN 16 k) k.length = true := by
  unfold okP6
  rw [blR_bytN, List.take_length]
  simp; omega
theorem ok6_key {l : List Int} {n : Int} (hf : FitB l) (hl : l.length = 16) (h : okP6 l n = true) : ∃ k : Bs, k.length ≤ 128 ∧ l = bytN 16 k ∧ n = (k.length : Int) := by
  unfold okP6 at h
  simp only [Bool.and_eq_true, decide_eq_true_eq] at h
  obtain ⟨⟨h0, h1⟩, hb⟩ := h
  obtain ⟨m, rfl⟩ : ∃ m : Nat, n = m := ⟨n.toNat, by omega⟩
  exact ⟨bitsK l m, by rw [bitsK_length]; omega, key_of hf hl hb, by rw [bitsK_length]⟩
theorem pre_take {p q : Bs} : pre p q = (decide (p.length ≤ q.length) && decide (p = q.take p.length)) := by
  unfold pre
  rw [← Bool.decide_and]
  refine decide_eq_decide.2 ⟨fun h => ⟨h.length_le, List.prefix_iff_eq_take.1 h⟩, fun h => List.prefix_iff_eq_take.2 h.2⟩
theorem cov6_byt {p q : Bs} (hq : q.length ≤ 128) : cov6 (bytN 16 p) p.length (bytN 16 q) q.length = pre p q := by
  unfold cov6
  rw [blR_bytN, pre_take]
  by_cases h : p.length ≤ q.length
  · have e : (decide (bytN 16 p = bytN 16 (q.take p.length))) = decide (p = q.take p.length) :=
      decide_eq_decide.2 ⟨fun e => bytN_inj (by rw [List.length_take]; omega) (by omega) e, fun e => congrArg (bytN 16) e⟩
    rw [e]
    congr 1
    exact decide_eq_decide.2 (by omega)
  · rw [decide_eq_false (by omega), decide_eq_false h]; rfl
theorem both6_byt {p q : Bs} (hp : p.length ≤ 128) (hq : q.length ≤ 128) : both6 (bytN 16 p) p.length (bytN 16 q) q.length = true := by
  unfold both6
  rw [okP6_byt hp, okP6_byt hq]; rfl
theorem has6_byt {p a : Bs} (ha : a.length = 128) (hp : p.length ≤ 128) : has6 (bytN 16 p) p.length (bytN 16 a) = pre p a := by
  unfold has6
  rw [blR_bytN, pre_take, decide_eq_true (show p.length ≤ a.length by omega), Bool.true_and]
  exact decide_eq_decide.2 ⟨fun e => (bytN_inj (by rw [List.length_take]; omega) (by rw [List.length_take]; omega) e).symm, fun e => (congrArg (bytN 16) e).symm⟩
theorem eqK {p q : Bs} (hp : p.length ≤ 128) : (decide (bytN 16 p = bytN 16 q) && decide ((p.length : Int) = q.length)) = decide (p = q) := by
  rw [← Bool.decide_and]
  refine decide_eq_decide.2 ⟨fun h => bytN_inj (by omega) (by omega) h.1, fun h => by subst h; exact ⟨rfl, rfl⟩⟩

/-- IPv4's. -/
theorem byt4 (k : Bs) : bytN 4 k = [((byteV k 0 : Nat) : Int), ((byteV k 1 : Nat) : Int), ((byteV k 2 : Nat) : Int), ((byteV k 3 : Nat) : Int)] := rfl
theorem byteV_zero {k : Bs} {i : Nat} (h : k.length ≤ 8 * i) : byteV k i = 0 := by
  have : ∀ j, bt k (8 * i + j) = 0 := fun j => by
    unfold bt
    rw [List.getElem?_eq_none (by omega)]; rfl
  unfold byteV
  have h0 := this 0
  rw [Nat.add_zero] at h0
  rw [h0, this 1, this 2, this 3, this 4, this 5, this 6, this 7]
theorem byt_16 {k : Bs} (h : k.length ≤ 32) : bytN 16 k = bytN 4 k ++ List.replicate 12 0 := by
  have z : ∀ i, 4 ≤ i → ((byteV k i : Nat) : Int) = 0 := fun i hi => by rw [byteV_zero (by omega)]; rfl
  have : bytN 16 k = bytN 4 k ++ [((byteV k 4 : Nat) : Int), ((byteV k 5 : Nat) : Int), ((byteV k 6 : Nat) : Int), ((byteV k 7 : Nat) : Int), ((byteV k 8 : Nat) : Int), ((byteV k 9 : Nat) : Int), ((byteV k 10 : Nat) : Int), ((byteV k 11 : Nat) : Int), ((byteV k 12 : Nat) : Int), ((byteV k 13 : Nat) : Int), ((byteV k 14 : Nat) : Int), ((byteV k 15 : Nat) : Int)] := rfl
  rw [this, z 4 (by omega), z 5 (by omega), z 6 (by omega), z 7 (by omega), z 8 (by omega), z 9 (by omega), z 10 (by omega), z 11 (by omega), z 12 (by omega), z 13 (by omega), z 14 (by omega), z 15 (by omega)]
  rfl
theorem ok4_key {a0 a1 a2 a3 n : Int} (hf : FitB [a0, a1, a2, a3]) (h : okP4 a0 a1 a2 a3 n = true) : ∃ k : Bs, k.length ≤ 32 ∧ [a0, a1, a2, a3] = bytN 4 k ∧ n = (k.length : Int) := by
  unfold okP4 at h
  simp only [Bool.and_eq_true, decide_eq_true_eq] at h
  obtain ⟨⟨h0, h1⟩, hb⟩ := h
  obtain ⟨m, rfl⟩ : ∃ m : Nat, n = m := ⟨n.toNat, by omega⟩
  rw [← blR4] at hb
  exact ⟨bitsK _ m, by rw [bitsK_length]; omega, key_of hf rfl hb, by rw [bitsK_length]⟩
theorem okP4_byt {k : Bs} (h : k.length ≤ 32) : okP4 (byteV k 0 : Nat) (byteV k 1 : Nat) (byteV k 2 : Nat) (byteV k 3 : Nat) k.length = true := by
  unfold okP4
  rw [← blR4, ← byt4, blR_bytN, List.take_length]
  simp; omega
theorem hasB_byt {p a : Bs} (ha : a.length = 32) (hp : p.length ≤ 32) : hasB (byteV p 0 : Nat) (byteV p 1 : Nat) (byteV p 2 : Nat) (byteV p 3 : Nat) p.length (byteV a 0 : Nat) (byteV a 1 : Nat) (byteV a 2 : Nat) (byteV a 3 : Nat) = pre p a := by
  unfold hasB
  rw [← blR4, ← byt4, ← byt4, blR_bytN, pre_take, decide_eq_true (show p.length ≤ a.length by omega), Bool.true_and]
  exact decide_eq_decide.2 ⟨fun e => (bytN_inj (by rw [List.length_take]; omega) (by rw [List.length_take]; omega) e).symm, fun e => (congrArg (bytN 4) e).symm⟩

/-- How many first bits are alike. -/
theorem lcp_min {p q : Bs} {L : Nat} (hp : p.length ≤ 128) (hq : q.length ≤ 128) (h1 : ∀ i, i < L → bt p i = bt q i) (h2 : L < 128 → bt p L ≠ bt q L) (h3 : L ≤ 128) :
    min (min p.length q.length) L = (lcp p q).length ∧ p.take (min (min p.length q.length) L) = lcp p q := by
  have hle1 := (lcp_fst p q).length_le
  have hle2 := (lcp_snd p q).length_le
  have e1 : p.take (lcp p q).length = lcp p q := (List.prefix_iff_eq_take.1 (lcp_fst p q)).symm
  have key : min (min p.length q.length) L = (lcp p q).length := by
    refine Nat.le_antisymm ?_ ?_
    · have hb : p.take (min (min p.length q.length) L) = q.take (min (min p.length q.length) L) := by
        refine bt_inj (by simp only [List.length_take]; omega) (fun i hi => ?_)
        rw [List.length_take] at hi
        rw [bt_take, bt_take]
        split
        · exact h1 i (by omega)
        · rfl
      have := (lcp_most (List.take_prefix _ p) (hb ▸ List.take_prefix _ q)).length_le
      rw [List.length_take] at this
      omega
    · have : (lcp p q).length ≤ L := by
        apply Classical.byContradiction
        intro hc
        apply h2 (by omega)
        have e2 : q.take (lcp p q).length = lcp p q := (List.prefix_iff_eq_take.1 (lcp_snd p q)).symm
        have a1 := bt_take p (lcp p q).length L
        have a2 := bt_take q (lcp p q).length L
        rw [if_pos (by omega)] at a1 a2
        rw [← a1, ← a2, e1, e2]
      omega
  exact ⟨key, by rw [key, e1]⟩
end Go.Proofs.Ytenahbdopgmpfaa
