/-
  The readers of IPv4 addresses, of the program and of the document, are one and the same plain function.
-/
import Derived.Test.YtlpbffcijhgelaaDoorQa5
import Derived.Test.YtlpbffcijhgelaaDoorAddrPure
namespace Go.Proofs.YtlpbffcijhgelaaDoor
open Go
set_option linter.unusedVariables false
set_option linter.unusedSimpArgs false

theorem split_snoc (c x : Int) : ∀ (l cur : List Int) (P : List (List Int)) (q : List Int), splitA c cur l = P ++ [q] → splitA c cur (l ++ [x]) = if x = c then P ++ [q] ++ [[]] else P ++ [q ++ [x]]
  | [], cur, P, q, h => by
    simp only [splitA] at h
    have hP : P = [] := by
      cases P with
      | nil => rfl
      | cons a r => have := congrArg List.length h; simp at this
    subst hP
    simp at h
    subst h
    by_cases hx : x = c
    · simp [splitA, hx]
    · simp [splitA, hx]
  | y :: l, cur, P, q, h => by
    rw [splitA] at h
    rw [List.cons_append, splitA]
    by_cases hy : y = c
    · rw [if_pos hy] at h ⊢
      cases P with
      | nil =>
        have h2 := List.cons.inj h
        exfalso
        have : ∀ (l cur : List Int), splitA c cur l ≠ [] := by
          intro l
          induction l with
          | nil => intro cur; simp [splitA]
          | cons z r ih => intro cur; rw [splitA]; split <;> simp [ih]
        exact this l [] h2.2
      | cons a r =>
        have h2 := List.cons.inj h
        have ih := split_snoc c x l [] r q h2.2
        rw [ih, h2.1]
        split <;> simp
    · rw [if_neg hy] at h ⊢
      exact split_snoc c x l (cur ++ [y]) P q h
theorem parts_snoc : ∀ (P : List (List Int)) (q : List Int), partsOk (P ++ [q]) = (P.all (fun p => octB p 255 && !p.isEmpty) && octB q 255)
  | [], q => by simp [partsOk]
  | [p], q => by simp [partsOk]
  | p :: p2 :: r, q => by
    have ih := parts_snoc (p2 :: r) q
    simp only [List.cons_append, partsOk, List.all_cons, Bool.and_assoc] at ih ⊢
    rw [ih]

theorem oct_len {q : List Int} (h : octB q 255 = true) : q.length ≤ 3 := by
  unfold octB at h
  cases q with
  | nil => simp
  | cons a r =>
    simp at h
    simp
    omega
theorem oct_step (q : List Int) (x : Int) (h : octB q 255 = true) : octB (q ++ [x]) 255 = true ↔ (48 ≤ x ∧ x ≤ 57) ∧ ¬ (q ≠ [] ∧ numF 0 q = 0) ∧ 10 * numF 0 q + (x - 48) ≤ 255 := by
  have hl := oct_len h
  match q, hl with
  | [], _ =>
    simp [octB, numF, digB]
    try omega
  | [a], _ =>
    simp [octB, numF, digB] at h ⊢
    omega
  | [a, b], _ =>
    simp [octB, numF, digB] at h ⊢
    omega
  | [a, b, c], _ =>
    simp [octB, numF, digB] at h ⊢
    omega
theorem num_snoc (q : List Int) (x : Int) : numF 0 (q ++ [x]) = numF 0 q * 10 + (x - 48) := by simp [numF, List.foldl_append]

/-- What the program's reader has read of l. -/
structure Rel (d : Dot) (l : List Int) (P : List (List Int)) (q : List Int) : Prop where
  split : splitA 46 [] l = P ++ [q]
  len : P.length ≤ 3
  all : P.all (fun p => octB p 255 && !p.isEmpty) = true
  oct : octB q 255 = true
  count : d.count = P.length
  value : d.num.value = numF 0 q
  begun : d.num.begun = !q.isEmpty
  e0 : d.e0 = ((P[0]?).map (numF 0)).getD 0
  e1 : d.e1 = ((P[1]?).map (numF 0)).getD 0
  e2 : d.e2 = ((P[2]?).map (numF 0)).getD 0

theorem Rel.new : Rel Dot.new [] [] [] := ⟨rfl, by simp, rfl, rfl, rfl, rfl, rfl, rfl, rfl, rfl⟩
theorem Rel.beg {d : Dot} {l : List Int} {P : List (List Int)} {q : List Int} (h : Rel d l P q) : begB l = true := by
  unfold begB
  rw [h.split, parts_snoc, h.all, h.oct]
  have := h.len
  simp
  omega
theorem Rel.who {d : Dot} {l : List Int} {P : List (List Int)} {q : List Int} (h : Rel d l P q) : whoB l = d.whole := by
  unfold whoB Dot.whole
  rw [h.beg, h.split, h.begun, h.count]
  have hl := h.len
  match P, hl with
  | [], _ => simp
  | [a], _ => simp
  | [a, b], _ => simp
  | [a, b, c], _ => simp
theorem Rel.addr {d : Dot} {l : List Int} {P : List (List Int)} {q : List Int} (h : Rel d l P q) (hw : d.whole = true) : (splitA 46 [] l).map (numF 0) = d.addr := by
  unfold Dot.whole at hw
  simp at hw
  have h3 : P.length = 3 := by have := h.count; omega
  unfold Dot.addr
  rw [h.split, h.e0, h.e1, h.e2, h.value]
  match P, h3 with
  | [a, b, c], _ => simp
theorem Rel.take {d : Dot} {l : List Int} {P : List (List Int)} {q : List Int} (h : Rel d l P q) (x : Int) : (∃ d', d.take x = some d' ∧ begB (l ++ [x]) = true ∧ ∃ P' q', Rel d' (l ++ [x]) P' q') ∨ (d.take x = none ∧ begB (l ++ [x]) = false) := by
  have hs := split_snoc 46 x l [] P q h.split
  by_cases hx : x = 46
  · rw [if_pos hx] at hs
    unfold Dot.take
    rw [if_neg (by simpa using hx)]
    by_cases hc : d.num.begun = false ∨ d.count = 3
    · refine .inr ⟨if_pos hc, ?_⟩
      unfold begB
      rw [hs, parts_snoc]
      rcases hc with hc | hc
      · rw [h.begun] at hc
        simp at hc
        simp [hc]
      · have : P.length = 3 := by have := h.count; omega
        simp [this]
    · refine .inl ⟨d.put, if_neg hc, ?_⟩
      have hb : q.isEmpty = false := by
        have := h.begun
        cases hq : q.isEmpty with
        | false => rfl
        | true => exact absurd (.inl (by rw [this, hq]; rfl)) hc
      have hl : P.length ≤ 2 := by
        have h1 := h.count
        have h2 := h.len
        have h3 : ¬ d.count = 3 := fun k => hc (.inr k)
        omega
      have hR : Rel d.put (l ++ [x]) (P ++ [q]) [] := by
        have hcnt := h.count
        refine ⟨hs, by simp; omega, ?_, rfl, ?_, ?_, ?_, ?_, ?_, ?_⟩
        · rw [List.all_append, h.all]
          simp [h.oct, hb]
        all_goals
          unfold Dot.put
          match P, hl, h.e0, h.e1, h.e2 with
          | [], _, g0, g1, g2 => simp at hcnt; simp [hcnt, h.value, Num.new, numF, g0, g1, g2]
          | [a], _, g0, g1, g2 => simp at hcnt; simp [hcnt, h.value, Num.new, numF, g0, g1, g2]
          | [a, b], _, g0, g1, g2 => simp at hcnt; simp [hcnt, h.value, Num.new, numF, g0, g1, g2]
      exact ⟨hR.beg, _, _, hR⟩
  · rw [if_neg hx] at hs
    unfold Dot.take
    rw [if_pos hx]
    have ho := oct_step q x h.oct
    unfold Num.take
    by_cases hg : octB (q ++ [x]) 255 = true
    · obtain ⟨g1, g2, g3⟩ := ho.1 hg
      have e1 : ¬ (x < 48 ∨ 57 < x ∨ (d.num.begun = true ∧ d.num.value = 0)) := by
        rintro (k | k | ⟨k1, k2⟩)
        · omega
        · omega
        · refine g2 ⟨fun hq => ?_, by rw [← h.value]; exact k2⟩
          rw [h.begun, hq] at k1
          simp at k1
      have e2 : ¬ (255 < 10 * d.num.value + (x - 48)) := by rw [h.value]; omega
      refine .inl ⟨{ d with num := ⟨10 * d.num.value + (x - 48), true⟩ }, by rw [if_neg e1, if_neg e2]; rfl, ?_⟩
      have hR : Rel { d with num := ⟨10 * d.num.value + (x - 48), true⟩ } (l ++ [x]) P (q ++ [x]) := ⟨hs, h.len, h.all, hg, h.count, by show 10 * d.num.value + (x - 48) = _; rw [num_snoc, h.value]; omega, by simp, h.e0, h.e1, h.e2⟩
      exact ⟨hR.beg, _, _, hR⟩
    · refine .inr ⟨?_, ?_⟩
      · by_cases e1 : x < 48 ∨ 57 < x ∨ (d.num.begun = true ∧ d.num.value = 0)
        · rw [if_pos e1]; rfl
        · rw [if_neg e1]
          have e2 : 255 < 10 * d.num.value + (x - 48) := by
            apply Classical.byContradiction
            intro e2
            refine hg (ho.2 ⟨by omega, fun ⟨k1, k2⟩ => e1 (.inr (.inr ⟨?_, by rw [h.value]; exact k2⟩)), by rw [← h.value]; omega⟩)
            rw [h.begun]
            cases q with
            | nil => exact absurd rfl k1
            | cons a r => rfl
          rw [if_pos e2]
          rfl
      · unfold begB
        rw [hs, parts_snoc]
        simp at hg
        simp [hg]

/-- Both readers go as far, and say the same. -/
theorem read_both : ∀ (l : List UInt8) (pre : List Int) (d : Dot) (P : List (List Int)) (q : List Int), Rel d pre P q → ∀ L, L = pre ++ l.map (fun b => ((b.toNat : Nat) : Int)) →
    match dotReader.read l pre.length d with
    | .bad n => begN L l.length pre.length = n ∧ (n < L.length ∨ whoB L = false)
    | .good d' => begN L l.length pre.length = L.length ∧ whoB L = true ∧ (splitA 46 [] L).map (numF 0) = d'.addr
  | [], pre, d, P, q, h, L, hL => by
    simp at hL
    subst hL
    unfold Reader.read
    have hw := h.who
    have e : dotReader.whole d = d.whole := rfl
    rw [e]
    by_cases hwh : d.whole = true
    · rw [if_pos hwh]
      exact ⟨rfl, hw.trans hwh, h.addr hwh⟩
    · rw [if_neg hwh]
      exact ⟨rfl, .inr (by rw [hw]; simpa using hwh)⟩
  | c :: l, pre, d, P, q, h, L, hL => by
    have hLt : L.take (pre.length + 1) = pre ++ [((c.toNat : Nat) : Int)] := by
      rw [hL, List.map_cons]
      rw [List.take_append, List.take_of_length_le (by omega), Nat.add_sub_cancel_left]
      rfl
    unfold Reader.read
    have e : dotReader.take d ((c.toNat : Nat) : Int) = d.take ((c.toNat : Nat) : Int) := rfl
    rw [e]
    have hbn : begN L (c :: l).length pre.length = if begB (L.take (pre.length + 1)) then begN L l.length (pre.length + 1) else pre.length := by rw [List.length_cons, begN]
    rcases h.take ((c.toNat : Nat) : Int) with ⟨d', h1, h2, P', q', h3⟩ | ⟨h1, h2⟩
    · rw [h1]
      have ih := read_both l (pre ++ [((c.toNat : Nat) : Int)]) d' P' q' h3 L (by rw [hL]; simp)
      rw [hbn, hLt, h2, if_pos rfl]
      rw [List.length_append, List.length_singleton] at ih
      exact ih
    · rw [h1]
      refine ⟨by rw [hbn, hLt, h2]; rfl, .inl ?_⟩
      rw [hL]
      simp

theorem parse_both (l : List UInt8) : rparse4 (l.map (fun b => ((b.toNat : Nat) : Int))) = ((parse4 l).1, ((parse4 l).2.1 : Int), (parse4 l).2.2) := by
  have h := read_both l [] Dot.new [] [] Rel.new _ rfl
  unfold parse4 rparse4
  simp only [List.length_nil, List.nil_append, List.length_map] at h ⊢
  cases hr : dotReader.read l 0 Dot.new with
  | bad n =>
    rw [hr] at h
    simp only at h
    rw [if_pos (by rw [h.1]; exact h.2), h.1]
  | good d =>
    rw [hr] at h
    simp only at h
    rw [if_neg (by rw [h.1, h.2.1]; simp), h.2.2]
    rfl

theorem split_len (c : Int) : ∀ (l cur : List Int), (splitA c cur l).flatten.length + (splitA c cur l).length = cur.length + l.length + 1
  | [], cur => by simp [splitA]
  | y :: l, cur => by
    rw [splitA]
    split
    · have := split_len c l []
      simp at this ⊢
      omega
    · have := split_len c l (cur ++ [y])
      simp at this ⊢
      omega
theorem beg_len {l : List Int} (h : begB l = true) : l.length ≤ 15 := by
  have hl := split_len 46 l []
  unfold begB at h
  generalize splitA 46 [] l = L at *
  simp only [Bool.and_eq_true, decide_eq_true_eq] at h
  obtain ⟨h1, h2⟩ := h
  match L, h1 with
  | [], _ => simp at hl
  | [a], _ =>
    have := oct_len h2
    simp at hl
    omega
  | [a, b], _ =>
    simp only [partsOk, Bool.and_eq_true] at h2
    have := oct_len h2.1.1
    have := oct_len h2.2
    simp at hl
    omega
  | [a, b, c], _ =>
    simp only [partsOk, Bool.and_eq_true] at h2
    have := oct_len h2.1.1
    have := oct_len h2.2.1.1
    have := oct_len h2.2.2
    simp at hl
    omega
  | [a, b, c, d], _ =>
    simp only [partsOk, Bool.and_eq_true] at h2
    have := oct_len h2.1.1
    have := oct_len h2.2.1.1
    have := oct_len h2.2.2.1.1
    have := oct_len h2.2.2.2
    simp at hl
    omega

end Go.Proofs.YtlpbffcijhgelaaDoor
