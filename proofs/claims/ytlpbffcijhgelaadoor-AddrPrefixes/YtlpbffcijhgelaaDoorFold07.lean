/-
  The program's reader of IPv6 addresses and the document's are one plain function.
  What Say6 says is read back by Prefix6, plainly.
  Say4.
  Say6.
  A text that is read whole as an IPv4 prefix is that prefix's own text.
  AddrAgain: what is parsed, said and parsed is the same.
-/
import Derived.Test.YtlpbffcijhgelaaDoorRa1
import Derived.Test.YtlpbffcijhgelaaDoorFold06
import Derived.Test.YtlpbffcijhgelaaDoorFold05
import Derived.Test.YtlpbffcijhgelaaDoorFold01
import Derived.Test.YtlpbffcijhgelaaDoorAddrChk2
namespace Go.Proofs.YtlpbffcijhgelaaDoor
open Go
set_option linter.unusedVariables false
set_option linter.unusedSimpArgs false

abbrev toI (c : UInt8) : Int := ((c.toNat : Nat) : Int)
theorem toI_range (c : UInt8) : 0 ≤ toI c ∧ toI c < 256 := by
  have := c.toNat_lt
  unfold toI
  omega
/-- The bytes of groups. -/
def flat2 (l : List Int) : List Int := (l.map (fun z => [z / 256, z % 256])).flatten
theorem flat2_len (l : List Int) : (flat2 l).length = 2 * l.length := by
  unfold flat2
  induction l with
  | nil => rfl
  | cons a l ih => simp only [List.map_cons, List.flatten_cons, List.length_append, List.length_cons, List.length_nil, ih]; omega
theorem flat2_app (l m : List Int) : flat2 (l ++ m) = flat2 l ++ flat2 m := by simp [flat2]
theorem flat2_take (l : List Int) : ∀ k, (flat2 l).take (2 * k) = flat2 (l.take k) := by
  induction l with
  | nil => intro k; simp [flat2]
  | cons a l ih =>
    intro k
    cases k with
    | zero => simp [flat2]
    | succ k =>
      have e : flat2 (a :: l) = [a / 256, a % 256] ++ flat2 l := rfl
      have e2 : flat2 ((a :: l).take (k + 1)) = [a / 256, a % 256] ++ flat2 (l.take k) := rfl
      rw [e, e2, ← ih k, show 2 * (k + 1) = 2 * k + 2 by omega]
      simp
theorem flat2_drop (l : List Int) : ∀ k, (flat2 l).drop (2 * k) = flat2 (l.drop k) := by
  induction l with
  | nil => intro k; simp [flat2]
  | cons a l ih =>
    intro k
    cases k with
    | zero => simp [flat2]
    | succ k =>
      have e : flat2 (a :: l) = [a / 256, a % 256] ++ flat2 l := rfl
      rw [e, List.drop_succ_cons, ← ih k, show 2 * (k + 1) = 2 * k + 2 by omega]
      simp
theorem flat2_zero (n : Nat) : flat2 (List.replicate n 0) = List.replicate (2 * n) 0 := by
  induction n with
  | zero => rfl
  | succ n ih =>
    rw [List.replicate_succ, show 2 * (n + 1) = 2 * n + 1 + 1 by omega, List.replicate_succ, List.replicate_succ]
    have e : flat2 (0 :: List.replicate n 0) = [0 / 256, 0 % 256] ++ flat2 (List.replicate n 0) := rfl
    rw [e, ih]
    rfl
theorem split_some (c : Int) : ∀ (l cur : List Int), ∃ P q, splitA c cur l = P ++ [q]
  | [], cur => ⟨[], cur, rfl⟩
  | x :: l, cur => by
    rw [splitA]
    split
    · obtain ⟨P, q, e⟩ := split_some c l []
      exact ⟨cur :: P, q, by rw [e]; rfl⟩
    · exact split_some c l _
theorem oct_front {q : List Int} {x : Int} (h : octB (q ++ [x]) 255 = true) : octB q 255 = true ∧ (48 ≤ x ∧ x ≤ 57) := by
  have hne : (q ++ [x]).isEmpty = false := by cases q <;> rfl
  unfold octB at h ⊢
  rw [hne] at h
  simp only [Bool.false_or, Bool.and_eq_true, Bool.not_eq_true', Bool.or_eq_false_iff, Bool.and_eq_false_iff, decide_eq_false_iff_not, List.length_append, List.length_singleton, List.all_append, List.all_cons, List.all_nil, Bool.and_true, decide_eq_true_eq] at h
  obtain ⟨⟨h1, h2⟩, ⟨h3, h3'⟩, h4⟩ := h
  have hx : 48 ≤ x ∧ x ≤ 57 := by simpa [digB] using h3'
  refine ⟨?_, hx⟩
  cases q with
  | nil => rfl
  | cons a r =>
    simp only [List.isEmpty_cons, Bool.false_or, Bool.and_eq_true, Bool.not_eq_true', Bool.or_eq_false_iff, Bool.and_eq_false_iff, decide_eq_false_iff_not, decide_eq_true_eq]
    refine ⟨⟨?_, by omega⟩, h3, ?_⟩
    · rcases h1 with h1 | h1
      · left; simpa using h1
      · right; simp at h1
    · rw [num_snoc] at h4
      have := (numF_range (a :: r) 0 (by omega) h3).1
      omega
/-- What begins an address begins one without its last letter too. -/
theorem beg_front {l : List Int} {x : Int} (h : begB (l ++ [x]) = true) : begB l = true := by
  obtain ⟨P, q, e⟩ := split_some 46 l []
  have hs := split_snoc 46 x l [] P q e
  unfold begB at h ⊢
  rw [hs] at h
  rw [e]
  by_cases hx : x = 46
  · rw [if_pos hx, parts_snoc] at h
    simp only [Bool.and_eq_true, decide_eq_true_eq, List.length_append, List.length_singleton, List.all_append, List.all_cons, List.all_nil, Bool.and_true] at h
    obtain ⟨h1, ⟨h2, h3, h4⟩, h5⟩ := h
    rw [parts_snoc]
    simp only [Bool.and_eq_true, decide_eq_true_eq, List.length_append, List.length_singleton]
    exact ⟨by omega, h2, h3⟩
  · rw [if_neg hx, parts_snoc] at h
    simp only [Bool.and_eq_true, decide_eq_true_eq, List.length_append, List.length_singleton] at h
    obtain ⟨h1, h2, h3⟩ := h
    rw [parts_snoc]
    simp only [Bool.and_eq_true, decide_eq_true_eq, List.length_append, List.length_singleton]
    exact ⟨h1, h2, (oct_front h3).1⟩
theorem beg_fronts : ∀ (m l : List Int), begB (l ++ m) = true → begB l = true
  | [], l, h => by simpa using h
  | x :: m, l, h => by
    have e : l ++ x :: m = (l ++ [x]) ++ m := by simp
    rw [e] at h
    exact beg_front (beg_fronts m _ h)
theorem begN_full (l : List Int) (h : begB l = true) : ∀ f n, n + f = l.length → begN l f n = l.length
  | 0, n, e => by rw [begN]; omega
  | f + 1, n, e => by
    rw [begN, if_pos (beg_fronts (l.drop (n + 1)) _ (by rw [List.take_append_drop]; exact h))]
    exact begN_full l h f (n + 1) (by omega)
theorem beg_digit {l : List Int} {x : Int} (hx : x ≠ 46) (h : begB (l ++ [x]) = true) : 48 ≤ x ∧ x ≤ 57 := by
  obtain ⟨P, q, e⟩ := split_some 46 l []
  have hs := split_snoc 46 x l [] P q e
  unfold begB at h
  rw [hs, if_neg hx, parts_snoc] at h
  simp only [Bool.and_eq_true] at h
  exact (oct_front h.2.2).2
theorem split_none : ∀ (l cur : List Int), (46 : Int) ∉ l → splitA 46 cur l = [cur ++ l]
  | [], cur, _ => by simp [splitA]
  | x :: l, cur, h => by
    rw [splitA, if_neg (by intro e; exact h (by simp [e])), split_none l _ (fun k => h (by simp [k]))]
    simp
theorem beg_short {l : List Int} (h46 : (46 : Int) ∉ l) (h : begB l = true) : l.length ≤ 3 := by
  unfold begB at h
  rw [split_none l [] h46] at h
  simp only [List.nil_append, partsOk, Bool.and_eq_true] at h
  exact oct_len h.2
theorem worth_rangeF (c : Int) : worthV c = -1 ∨ (0 ≤ worthV c ∧ worthV c < 16) := by
  unfold worthV
  split
  · omega
  · split
    · omega
    · split <;> omega
theorem hexv_worth (c : Int) : hexv c = if 0 ≤ worthV c then some (worthV c) else none := by
  unfold hexv worthV
  by_cases h1 : 48 ≤ c ∧ c ≤ 57
  · rw [if_pos h1, if_pos h1, if_pos (by omega)]
  · rw [if_neg h1, if_neg h1]
    by_cases h2 : 97 ≤ c ∧ c ≤ 102
    · rw [if_pos h2, if_pos h2, if_pos (by omega)]
    · rw [if_neg h2, if_neg h2]
      by_cases h3 : 65 ≤ c ∧ c ≤ 70
      · rw [if_pos h3, if_pos h3, if_pos (by omega)]
      · rw [if_neg h3, if_neg h3, if_neg (by omega)]
theorem valF_snocF (l : List Int) (x : Int) : valF (l ++ [x]) = valF l * 16 + worthV x := by simp [valF, List.foldl_append]
theorem foldl_range : ∀ (l : List Int) (n : Int), 0 ≤ n → l.all (fun c => decide (0 ≤ worthV c)) = true → 0 ≤ l.foldl (fun n c => n * 16 + worthV c) n ∧ l.foldl (fun n c => n * 16 + worthV c) n < (n + 1) * 16 ^ l.length
  | [], n, hn, _ => by simp; omega
  | x :: l, n, hn, h => by
    simp only [List.all_cons, Bool.and_eq_true, decide_eq_true_eq] at h
    have hw := worth_rangeF x
    obtain ⟨h1, h2⟩ := foldl_range l (n * 16 + worthV x) (by omega) h.2
    rw [List.foldl_cons]
    refine ⟨h1, Int.lt_of_lt_of_le h2 ?_⟩
    rw [List.length_cons, Int.pow_succ, Int.mul_comm (16 ^ l.length) 16, ← Int.mul_assoc]
    exact Int.mul_le_mul_of_nonneg_right (by omega) (Int.pow_nonneg (by decide))
theorem valF_rangeF {l : List Int} (h : l.all (fun c => decide (0 ≤ worthV c)) = true) : 0 ≤ valF l ∧ valF l < 16 ^ l.length := by
  have := foldl_range l 0 (by omega) h
  simpa [valF] using this
theorem grpB_iff (l : List Int) : grpB l = true ↔ l.all (fun c => decide (0 ≤ worthV c)) = true ∧ 1 ≤ l.length ∧ l.length ≤ 4 := by
  simp [grpB]
theorem grpB_snoc {l : List Int} {c : Int} (h : l = [] ∨ grpB l = true) : grpB (l ++ [c]) = true ↔ 0 ≤ worthV c ∧ l.length ≤ 3 := by
  rw [grpB_iff]
  simp only [List.all_append, List.all_cons, List.all_nil, Bool.and_true, Bool.and_eq_true, decide_eq_true_eq, List.length_append, List.length_singleton]
  have ha : l.all (fun c => decide (0 ≤ worthV c)) = true := by
    rcases h with rfl | h
    · rfl
    · exact ((grpB_iff l).1 h).1
  constructor
  · rintro ⟨⟨_, h1⟩, _, h2⟩; exact ⟨h1, by omega⟩
  · rintro ⟨h1, h2⟩; exact ⟨⟨ha, h1⟩, by omega, by omega⟩
theorem no_dot {l : List Int} (h : l = [] ∨ grpB l = true) : (46 : Int) ∉ l := by
  rcases h with rfl | h
  · simp
  · intro k
    have := (List.all_eq_true.1 ((grpB_iff l).1 h).1) 46 k
    simp [worthV] at this

/-- What was read, as long as no dot stands there. -/
structure S6 (pre : List Int) (g : Grp) (x : SixS) : Prop where
  dots : g.dots = false
  ended : g.ended = flat2 x.L
  part : g.part.map toI = x.part
  value : g.value = valF x.part
  gapped : g.gapped = decide (0 ≤ x.gap)
  gap : 0 ≤ x.gap → g.gap = 2 * x.gap ∧ x.gap ≤ x.L.length
  okp : x.part = [] ∨ grpB x.part = true
  room : (x.L.length : Int) ≤ 7
  roomp : x.part ≠ [] → (x.L.length : Int) + 1 ≤ x.room
  tail : g.tail = Dot.new
  start : pre = [] → x.part = [] ∧ x.L = [] ∧ x.gap < 0
  lone : g.lone = decide (pre = [58])
  last : x.part = [] → pre = [] ∨ pre.getLast? = some 58
  colons0 : x.part = [] → (g.colons = 0 ↔ pre = [])
  colons2 : x.part = [] → 0 ≤ x.gap → (g.colons = 2 ↔ x.gap = x.L.length)
  colonsp : x.part ≠ [] → g.colons = 0

/-- What was read, with a dot. -/
structure D6 (pre : List Int) (g : Grp) (x : SixS) : Prop where
  dots : g.dots = true
  ended : g.ended = flat2 x.L
  gapped : g.gapped = decide (0 ≤ x.gap)
  gap : 0 ≤ x.gap → g.gap = 2 * x.gap ∧ x.gap ≤ x.L.length
  rel : ∃ P q, Rel g.tail x.part P q
  ok : g.tail.Ok
  nog : ∀ m, grpB (x.part ++ m) = false
  ne : x.part ≠ []
  room : (x.L.length : Int) + 2 ≤ x.room
  place : 0 ≤ x.gap ∨ x.L.length = 6
  len : 2 ≤ pre.length

def I6 (pre : List Int) (g : Grp) (x : SixS) : Prop := S6 pre g x ∨ D6 pre g x

theorem S6.new : S6 [] Grp.new ⟨[], -1, []⟩ :=
  ⟨rfl, rfl, rfl, rfl, rfl, fun h => absurd h (by decide), .inl rfl, by simp, fun h => absurd rfl h, rfl, fun _ => ⟨rfl, rfl, by decide⟩, rfl, fun _ => .inl rfl, fun _ => ⟨fun _ => rfl, fun _ => rfl⟩, fun _ h => absurd h (by decide), fun h => absurd rfl h⟩

theorem takes_both : ∀ (l : List UInt8) (pre : List Int) (d : Dot) (P : List (List Int)) (q : List Int), Rel d pre P q → d.Ok →
    (∃ d', d.takes l = some d' ∧ d'.Ok ∧ ∃ P' q', Rel d' (pre ++ l.map toI) P' q') ∨ (d.takes l = none ∧ ∀ m, begB (pre ++ l.map toI ++ m) = false)
  | [], pre, d, P, q, h, ok => .inl ⟨d, rfl, ok, P, q, by simpa using h⟩
  | c :: l, pre, d, P, q, h, ok => by
    rcases h.take (toI c) with ⟨d', h1, h2, P', q', h3⟩ | ⟨h1, h2⟩
    · have e : d.takes (c :: l) = d'.takes l := by
        show (d.take (toI c)).bind _ = _
        rw [h1]; rfl
      have ih := takes_both l (pre ++ [toI c]) d' P' q' h3 (Dot.take_ok h1 ok)
      rw [e]
      simpa using ih
    · refine .inr ⟨by show (d.take (toI c)).bind _ = _; rw [h1]; rfl, fun m => ?_⟩
      cases hb : begB (pre ++ (c :: l).map toI ++ m) with
      | false => rfl
      | true =>
        have e : pre ++ (c :: l).map toI ++ m = (pre ++ [toI c]) ++ (l.map toI ++ m) := by simp
        rw [e] at hb
        rw [beg_fronts _ _ hb] at h2
        cases h2

theorem at_last (pre : List Int) (c : Int) (rest : List Int) (h : pre ≠ []) : (pre ++ c :: rest)[pre.length - 1]? = pre.getLast? := by
  have : 0 < pre.length := List.length_pos_iff.2 h
  rw [List.getElem?_append_left (by omega), List.getLast?_eq_getElem?]
theorem at_one {pre : List Int} {c : Int} {rest : List Int} : (pre.length = 1 ∧ (pre ++ c :: rest)[0]? = some 58) ↔ pre = [58] := by
  constructor
  · rintro ⟨h1, h2⟩
    match pre, h1 with
    | [a], _ => simpa using h2
  · rintro rfl; exact ⟨rfl, rfl⟩
theorem room_of {pre : List Int} {g : Grp} {x : SixS} (he : g.ended = flat2 x.L) (hg : g.gapped = decide (0 ≤ x.gap)) : g.room = 2 * (x.room - x.L.length) := by
  have hl : g.ended.length = 2 * x.L.length := by rw [he, flat2_len]
  unfold Grp.room SixS.room
  rw [hg]
  by_cases h : 0 ≤ x.gap
  · simp only [h, decide_true, if_true, hl]; omega
  · simp only [h, decide_false, if_false, Bool.false_eq_true, hl]; omega
theorem snoc_ne (pre : List Int) (c : Int) : pre ++ [c] ≠ [] := by simp
theorem snoc_58 {pre : List Int} (c : Int) (h : pre ≠ []) : pre ++ [c] ≠ [58] := by
  cases pre with
  | nil => exact absurd rfl h
  | cons a r => simp
theorem num58 (n : Num) (m : Int) : n.take 58 m = none := by
  unfold Num.take; rw [if_pos (by omega)]

theorem step_colon {pre : List Int} {g : Grp} {x : SixS} (h : S6 pre g x) (rest : List Int) :
    (∃ g' x', g.take 58 = some g' ∧ x.step (pre ++ 58 :: rest) pre.length 58 = some x' ∧ I6 (pre ++ [58]) g' x') ∨ (g.take 58 = none ∧ x.step (pre ++ 58 :: rest) pre.length 58 = none) := by
  have hd := h.dots
  have et : g.take 58 = if g.part = [] then g.second else g.colon := by
    unfold Grp.take
    rw [hd]
    rfl
  rw [et]
  by_cases hp : x.part = []
  · have hgp : g.part = [] := by have := h.part; rw [hp] at this; simpa using this
    rw [if_pos hgp]
    unfold SixS.step
    rw [if_pos ⟨rfl, hp⟩]
    by_cases hpre : pre = []
    · obtain ⟨s1, s2, s3⟩ := h.start hpre
      have hc0 := (h.colons0 hp).2 hpre
      have hgg : g.gapped = false := by rw [h.gapped]; simp; omega
      rw [if_pos (by rw [hpre]; rfl)]
      refine .inl ⟨{ g with colons := 1 }, x, by unfold Grp.second; rw [hgg, if_neg (by simp), if_pos hc0], rfl, .inl ?_⟩
      refine ⟨hd, h.ended, h.part, h.value, h.gapped, h.gap, h.okp, h.room, h.roomp, h.tail, fun k => absurd k (snoc_ne _ _), ?_, fun _ => .inr (by simp), fun _ => ⟨fun k => by simp at k, fun k => absurd k (snoc_ne _ _)⟩, fun _ k => absurd k (by omega), fun k => absurd hp k⟩
      unfold Grp.lone
      rw [show ({ g with colons := 1 } : Grp).ended = g.ended from rfl, show ({ g with colons := 1 } : Grp).gapped = g.gapped from rfl, h.ended, s2, hgg, hpre]
      rfl
    · have hc0 : ¬ g.colons = 0 := fun k => hpre ((h.colons0 hp).1 k)
      have hlast : (pre ++ 58 :: rest)[pre.length - 1]? = some 58 := by
        rw [at_last _ _ _ hpre]
        rcases h.last hp with k | k
        · exact absurd k hpre
        · exact k
      have hl0 : ¬ pre.length = 0 := fun k => hpre (List.length_eq_zero_iff.1 k)
      rw [if_neg hl0]
      by_cases hg : 0 ≤ x.gap
      · refine .inr ⟨?_, if_neg (by omega)⟩
        unfold Grp.second
        rw [h.gapped]
        simp [hg]
      · have hgg : g.gapped = false := by rw [h.gapped]; simp; omega
        rw [if_pos ⟨hlast, by omega, by have := h.room; omega⟩]
        refine .inl ⟨{ g with colons := 2, gapped := true, gap := g.ended.length }, _, by unfold Grp.second; rw [hgg, if_neg (by simp), if_neg hc0], rfl, .inl ?_⟩
        refine ⟨hd, h.ended, h.part, h.value, ?_, ?_, h.okp, h.room, fun k => absurd hp k, h.tail, fun k => absurd k (snoc_ne _ _), ?_, fun _ => .inr (by simp), fun _ => ⟨fun k => by simp at k, fun k => absurd k (snoc_ne _ _)⟩, fun _ _ => ⟨fun _ => rfl, fun _ => rfl⟩, fun k => absurd hp k⟩
        · show true = decide (0 ≤ (x.L.length : Int)); simp
        · intro _
          refine ⟨?_, Int.le_refl _⟩
          show ((g.ended.length : Nat) : Int) = 2 * ((x.L.length : Nat) : Int)
          rw [h.ended, flat2_len]; omega
        · have : (decide (pre ++ [58] = [58]) : Bool) = false := decide_eq_false (snoc_58 _ hpre)
          rw [this]
          unfold Grp.lone
          simp
  · have hgp : ¬ g.part = [] := fun k => hp (by rw [← h.part, k]; rfl)
    rw [if_neg hgp]
    unfold SixS.step
    rw [if_neg (fun k => hp k.2), if_pos rfl]
    have hgr : grpB x.part = true := h.okp.resolve_left hp
    have hroom := room_of (pre := pre) h.ended h.gapped
    unfold Grp.colon
    by_cases hr : x.room ≤ (x.L.length : Int) + 1
    · exact .inr ⟨if_pos (by omega), if_pos (.inr hr)⟩
    · rw [if_neg (by omega : ¬ g.room ≤ 2), if_neg (fun k => k.elim (fun k => by rw [hgr] at k; cases k) hr)]
      refine .inl ⟨_, _, rfl, rfl, .inl ?_⟩
      have hx8 : x.room ≤ 8 := by unfold SixS.room; split <;> omega
      refine ⟨hd, ?_, rfl, rfl, h.gapped, ?_, .inl rfl, ?_, fun k => absurd rfl k, h.tail, fun k => absurd k (snoc_ne _ _), ?_, fun _ => .inr (by simp), fun _ => ⟨fun k => by simp at k, fun k => absurd k (snoc_ne _ _)⟩, ?_, fun k => absurd rfl k⟩
      · show g.ended ++ _ = flat2 (x.L ++ [valF x.part])
        rw [flat2_app, h.ended, h.value]
        rfl
      · intro k
        obtain ⟨k1, k2⟩ := h.gap k
        refine ⟨k1, ?_⟩
        show x.gap ≤ ((x.L ++ [valF x.part]).length : Nat)
        rw [List.length_append]; simp; omega
      · show (((x.L ++ [valF x.part]).length : Nat) : Int) ≤ 7
        rw [List.length_append]; simp; omega
      · have hpre : pre ≠ [] := fun k => hp (h.start k).1
        rw [decide_eq_false (snoc_58 _ hpre)]
        unfold Grp.lone
        simp
      · intro _ k
        obtain ⟨k1, k2⟩ := h.gap k
        refine ⟨fun q => by simp at q, fun q => ?_⟩
        have : x.gap = (((x.L ++ [valF x.part]).length : Nat) : Int) := q
        rw [List.length_append] at this; simp at this; omega

theorem step_dot {pre : List Int} {g : Grp} {x : SixS} (h : S6 pre g x) (rest : List Int) :
    (∃ g' x', g.take 46 = some g' ∧ x.step (pre ++ 46 :: rest) pre.length 46 = some x' ∧ I6 (pre ++ [46]) g' x') ∨ (g.take 46 = none ∧ x.step (pre ++ 46 :: rest) pre.length 46 = none) := by
  have hd := h.dots
  have et : g.take 46 = g.dot := by
    unfold Grp.take
    rw [hd]
    rfl
  rw [et]
  have hroom := room_of (pre := pre) h.ended h.gapped
  have hx8 : x.room = if 0 ≤ x.gap then 7 else 8 := rfl
  have hng : ∀ m, grpB (x.part ++ [46] ++ m) = false := fun m => by
    cases hb : grpB (x.part ++ [46] ++ m) with
    | false => rfl
    | true =>
      have := (List.all_eq_true.1 ((grpB_iff _).1 hb).1) 46 (by simp)
      simp [worthV] at this
  have hng0 : grpB (x.part ++ [46]) = false := by simpa using hng []
  have estep : x.step (pre ++ 46 :: rest) pre.length 46 = if pre = [58] then none else if begB (x.part ++ [46]) = true ∧ (x.L.length : Int) + 2 ≤ x.room ∧ (0 ≤ x.gap ∨ x.L.length = 6) then some { x with part := x.part ++ [46] } else none := by
    unfold SixS.step
    rw [if_neg (by simp), if_neg (by decide)]
    by_cases h1 : pre = [58]
    · rw [if_pos h1, if_pos (at_one.2 h1)]
    · rw [if_neg h1, if_neg (fun k => h1 (at_one.1 k))]
      rw [hng0]
      simp
  rw [estep]
  unfold Grp.dot
  have htk := takes_both g.part [] Dot.new [] [] Rel.new Dot.ok_new
  rw [List.nil_append, h.part] at htk
  rw [h.tail]
  by_cases h1 : pre = [58]
  · rw [if_pos h1]
    have hpart : x.part = [] := by
      apply Classical.byContradiction
      intro k
      have hl := h.lone
      rw [h1] at hl
      unfold Grp.lone at hl
      rw [h.colonsp k] at hl
      simp at hl
    have hgp : g.part = [] := by have := h.part; rw [hpart] at this; simpa using this
    rw [hgp]
    refine .inr ⟨?_, rfl⟩
    split
    · rfl
    · rfl
  · rw [if_neg h1]
    by_cases hc : (x.L.length : Int) + 2 ≤ x.room ∧ (0 ≤ x.gap ∨ x.L.length = 6)
    · have e0 : ¬ (g.room < 4 ∨ (g.gapped = false ∧ 4 < g.room)) := by
        rw [h.gapped, hroom]
        simp
        refine ⟨by omega, fun k => ?_⟩
        have : ¬ 0 ≤ x.gap := by omega
        rw [if_neg this] at hx8
        omega
      rw [if_neg e0]
      rcases htk with ⟨d, t1, t2, P', q', t3⟩ | ⟨t1, t2⟩
      · rw [t1]
        rcases t3.take 46 with ⟨d', u1, u2, P2, q2, u3⟩ | ⟨u1, u2⟩
        · rw [if_pos ⟨u2, hc⟩]
          refine .inl ⟨{ g with dots := true, tail := d' }, _, by simp [u1], rfl, .inr ?_⟩
          refine ⟨rfl, h.ended, h.gapped, h.gap, ⟨P2, q2, u3⟩, Dot.take_ok u1 t2, hng, snoc_ne _ _, hc.1, hc.2, ?_⟩
          have hpre : pre ≠ [] := by
            intro k
            have e := (h.start k).1
            rw [e] at u2
            revert u2
            decide
          have := List.length_pos_iff.2 hpre
          rw [List.length_append, List.length_singleton]; omega
        · rw [if_neg (fun k => by rw [u2] at k; exact absurd k.1 (by decide))]
          exact .inr ⟨by simp [u1], rfl⟩
      · rw [if_neg (fun k => by rw [t2 [46]] at k; exact absurd k.1 (by decide)), t1]
        exact .inr ⟨rfl, rfl⟩
    · refine .inr ⟨if_pos ?_, if_neg (fun k => hc k.2)⟩
      rw [h.gapped, hroom]
      simp
      by_cases hg : 0 ≤ x.gap
      · rw [if_pos hg] at hx8
        left
        have : ¬ ((x.L.length : Int) + 2 ≤ x.room) := fun k => hc ⟨k, .inl hg⟩
        omega
      · rw [if_neg hg] at hx8
        by_cases h6 : (x.L.length : Int) + 2 ≤ x.room
        · right
          have : ¬ x.L.length = 6 := fun k => hc ⟨h6, .inr k⟩
          omega
        · left; omega

theorem u8_backF (c : UInt8) : UInt8.ofNat (toI c).toNat = c := by
  unfold toI
  rw [Int.toNat_natCast]
  exact UInt8.ofNat_toNat
theorem step_other {pre : List Int} {g : Grp} {x : SixS} (h : S6 pre g x) (rest : List Int) (c : UInt8) (h58 : toI c ≠ 58) (h46 : toI c ≠ 46) :
    (∃ g' x', g.take (toI c) = some g' ∧ x.step (pre ++ toI c :: rest) pre.length (toI c) = some x' ∧ I6 (pre ++ [toI c]) g' x') ∨ (g.take (toI c) = none ∧ x.step (pre ++ toI c :: rest) pre.length (toI c) = none) := by
  have hd := h.dots
  have et : g.take (toI c) = g.digit (toI c) := by
    unfold Grp.take
    rw [hd, if_neg (by decide), if_neg h58, if_neg h46]
  rw [et]
  have hroom := room_of (pre := pre) h.ended h.gapped
  have hx8 : x.room = if 0 ≤ x.gap then 7 else 8 := rfl
  have hrm := h.room
  have hpl : x.part.length = g.part.length := by rw [← h.part, List.length_map]
  have hgs := grpB_snoc (c := toI c) h.okp
  have hbg : begB (x.part ++ [toI c]) = true → 48 ≤ toI c ∧ toI c ≤ 57 ∧ x.part.length ≤ 2 := fun k => by
    have k1 := beg_digit h46 k
    have k2 := beg_short (by
      intro m
      rcases List.mem_append.1 m with m | m
      · exact no_dot h.okp m
      · simp at m; exact h46 m.symm) k
    rw [List.length_append, List.length_singleton] at k2
    exact ⟨k1.1, k1.2, by omega⟩
  have estep : x.step (pre ++ toI c :: rest) pre.length (toI c) = if pre = [58] then none else if 0 ≤ worthV (toI c) ∧ x.part.length ≤ 3 ∧ (x.L.length : Int) + 1 ≤ x.room then some { x with part := x.part ++ [toI c] } else none := by
    unfold SixS.step
    rw [if_neg (fun k => h58 k.1), if_neg h58]
    by_cases h1 : pre = [58]
    · rw [if_pos h1, if_pos (at_one.2 h1)]
    · rw [if_neg h1, if_neg (fun k => h1 (at_one.1 k))]
      by_cases hk : 0 ≤ worthV (toI c) ∧ x.part.length ≤ 3 ∧ (x.L.length : Int) + 1 ≤ x.room
      · rw [if_pos hk, if_pos]
        rw [hgs.2 ⟨hk.1, hk.2.1⟩]
        simp [hk.2.2]
      · rw [if_neg hk, if_neg]
        intro k
        simp only [Bool.or_eq_true, Bool.and_eq_true, decide_eq_true_eq] at k
        rcases k with ⟨k1, k2⟩ | ⟨k1, k2, k3⟩
        · exact hk ⟨(hgs.1 k1).1, (hgs.1 k1).2, k2⟩
        · obtain ⟨b1, b2, b3⟩ := hbg k1
          exact hk ⟨by unfold worthV; rw [if_pos ⟨b1, b2⟩]; omega, by omega, by omega⟩
  rw [estep]
  unfold Grp.digit
  rw [hexv_worth]
  have hw := worth_rangeF (toI c)
  by_cases hv : 0 ≤ worthV (toI c)
  · rw [if_pos hv]
    simp only
    by_cases h1 : pre = [58]
    · rw [if_pos h1]
      exact .inr ⟨if_pos (.inl (by rw [h.lone, h1]; rfl)), rfl⟩
    · rw [if_neg h1]
      by_cases hk : 0 ≤ worthV (toI c) ∧ x.part.length ≤ 3 ∧ (x.L.length : Int) + 1 ≤ x.room
      · obtain ⟨k1, k2, k3⟩ := hk
        refine .inl ⟨_, _, if_neg ?_, if_pos ⟨k1, k2, k3⟩, .inl ?_⟩
        rotate_left
        · have hval := valF_rangeF (l := x.part) (by
            rcases h.okp with k | k
            · rw [k]; rfl
            · exact ((grpB_iff _).1 k).1)
          have hp16 : (16 : Int) ^ x.part.length ≤ 4096 := by
            have : x.part.length = 0 ∨ x.part.length = 1 ∨ x.part.length = 2 ∨ x.part.length = 3 := by omega
            rcases this with e | e | e | e <;> rw [e] <;> decide
          refine ⟨hd, h.ended, ?_, ?_, h.gapped, h.gap, .inr (hgs.2 ⟨k1, k2⟩), h.room, fun _ => k3, h.tail, fun k => absurd k (snoc_ne _ _), ?_, fun k => absurd k (snoc_ne _ _), fun k => absurd k (snoc_ne _ _), fun k => absurd k (snoc_ne _ _), fun _ => rfl⟩
          · show (g.part ++ [UInt8.ofNat (toI c).toNat]).map toI = x.part ++ [toI c]
            rw [u8_backF, List.map_append, h.part]
            rfl
          · show g.value * 16 % 65536 + worthV (toI c) = valF (x.part ++ [toI c])
            rw [valF_snocF, h.value]
            omega
          · have : (decide (pre ++ [toI c] = [58]) : Bool) = false := decide_eq_false (by
              cases pre with
              | nil => intro k; simp at k; exact h58 k
              | cons a r => simp)
            rw [this]
            unfold Grp.lone
            simp
        · rintro (k | k | k)
          · rw [h.lone] at k
            exact h1 (of_decide_eq_true k)
          · rw [hroom] at k; omega
          · omega
      · rw [if_neg hk]
        refine .inr ⟨if_pos ?_, rfl⟩
        have hle4 : x.part.length ≤ 4 := by
          rcases h.okp with k | k
          · rw [k]; simp
          · exact ((grpB_iff _).1 k).2.2
        by_cases h3 : x.part.length ≤ 3
        · right; left
          have : ¬ ((x.L.length : Int) + 1 ≤ x.room) := fun k => hk ⟨hv, h3, k⟩
          rw [hroom]
          by_cases hg : 0 ≤ x.gap
          · rw [if_pos hg] at hx8; omega
          · rw [if_neg hg] at hx8; omega
        · right; right; omega
  · rw [if_neg hv]
    refine .inr ⟨rfl, ?_⟩
    split
    · rfl
    · exact if_neg (fun k => hv k.1)

theorem step_dots {pre : List Int} {g : Grp} {x : SixS} (h : D6 pre g x) (rest : List Int) (c : Int) :
    (∃ g' x', g.take c = some g' ∧ x.step (pre ++ c :: rest) pre.length c = some x' ∧ I6 (pre ++ [c]) g' x') ∨ (g.take c = none ∧ x.step (pre ++ c :: rest) pre.length c = none) := by
  have hng0 : grpB x.part = false := by simpa using h.nog []
  have hl := h.len
  have et : g.take c = (g.tail.take c).map (fun d => { g with tail := d }) := by
    unfold Grp.take
    rw [h.dots]
    rfl
  rw [et]
  obtain ⟨P, q, hr⟩ := h.rel
  have estep : x.step (pre ++ c :: rest) pre.length c = if c ≠ 58 ∧ begB (x.part ++ [c]) = true then some { x with part := x.part ++ [c] } else none := by
    unfold SixS.step
    rw [if_neg (fun k => h.ne k.2)]
    by_cases hc : c = 58
    · rw [if_pos hc, if_pos (.inl hng0), if_neg (fun k => k.1 hc)]
    · rw [if_neg hc, if_neg (fun k => by omega)]
      have e1 := h.nog [c]
      have e2 : (decide ((x.L.length : Int) + 2 ≤ x.room) : Bool) = true := decide_eq_true h.room
      have e3 : (decide (0 ≤ x.gap) || decide (x.L.length = 6)) = true := by simpa using h.place
      rw [e1, e2, e3]
      simp [hc]
  rw [estep]
  rcases hr.take c with ⟨d', u1, u2, P2, q2, u3⟩ | ⟨u1, u2⟩
  · by_cases hc : c = 58
    · subst hc
      unfold Dot.take at u1
      rw [if_pos (by decide), num58] at u1
      cases u1
    · rw [if_pos ⟨hc, u2⟩, u1]
      refine .inl ⟨_, _, rfl, rfl, .inr ⟨h.dots, h.ended, h.gapped, h.gap, ⟨P2, q2, u3⟩, Dot.take_ok u1 h.ok, fun m => ?_, snoc_ne _ _, h.room, h.place, by rw [List.length_append]; omega⟩⟩
      have := h.nog ([c] ++ m)
      simpa using this
  · rw [u1, u2]
    exact .inr ⟨rfl, if_neg (fun k => by simp at k)⟩

theorem step_both {pre : List Int} {g : Grp} {x : SixS} (h : I6 pre g x) (rest : List Int) (c : UInt8) :
    (∃ g' x', g.take (toI c) = some g' ∧ x.step (pre ++ toI c :: rest) pre.length (toI c) = some x' ∧ I6 (pre ++ [toI c]) g' x') ∨ (g.take (toI c) = none ∧ x.step (pre ++ toI c :: rest) pre.length (toI c) = none) := by
  rcases h with h | h
  · by_cases h1 : toI c = 58
    · rw [h1]; exact step_colon h rest
    · by_cases h2 : toI c = 46
      · rw [h2]; exact step_dot h rest
      · exact step_other h rest c h1 h2
  · exact step_dots h rest _

/-- What is read is whole to both or to neither, and the same. -/
theorem whole_both {pre : List Int} {g : Grp} {x : SixS} (h : I6 pre g x) :
    (g.whole = true ∧ ∃ G, whole6 x = some G ∧ flat2 G = g.addr ∧ G.length = 8) ∨ (g.whole = false ∧ whole6 x = none) := by
  -- what stands there, and its bytes
  have fin : ∀ l : List Int, givenG x = some l → g.given = flat2 l → g.gapped = decide (0 ≤ x.gap) → (0 ≤ x.gap → g.gap = 2 * x.gap ∧ x.gap ≤ l.length ∧ (l.length : Int) ≤ 7) → (x.gap < 0 → l.length = 8) → ∃ G, whole6 x = some G ∧ flat2 G = g.addr ∧ G.length = 8 := by
    intro l e1 e2 e3 e4 e5
    unfold whole6 Grp.addr
    rw [e1, e2, e3]
    simp only
    by_cases hg : 0 ≤ x.gap
    · obtain ⟨q1, q2, q3⟩ := e4 hg
      rw [if_neg (by omega), if_pos (by omega), if_pos (by simpa using hg)]
      refine ⟨_, rfl, ?_, by simp; omega⟩
      rw [flat2_app, flat2_app, flat2_zero, flat2_len, show g.gap.toNat = 2 * x.gap.toNat by omega, flat2_take, flat2_drop, show 2 * (8 - l.length) = 16 - 2 * l.length by omega]
    · rw [if_pos (by omega), if_pos (e5 (by omega)), if_neg (by simpa using hg)]
      exact ⟨_, rfl, rfl, e5 (by omega)⟩
  rcases h with h | h
  · have hroom := room_of (pre := pre) h.ended h.gapped
    have hx8 : x.room = if 0 ≤ x.gap then 7 else 8 := rfl
    have hrm := h.room
    by_cases hp : x.part = []
    · have hgp : g.part = [] := by have := h.part; rw [hp] at this; simpa using this
      have hg0 : grpB x.part = false := by rw [hp]; rfl
      by_cases hg : 0 ≤ x.gap ∧ x.gap = x.L.length
      · refine .inl ⟨?_, fin x.L ?_ ?_ h.gapped (fun k => ⟨(h.gap k).1, (h.gap k).2, hrm⟩) (fun k => by omega)⟩
        · unfold Grp.whole
          rw [h.dots, h.gapped]
          simp [hg.1, (h.colons2 hp hg.1).2 hg.2]
        · unfold givenG
          rw [hg0, if_neg (by simp), if_neg (fun k => k.1 hp), if_pos ⟨hp, hg⟩]
        · unfold Grp.given
          rw [h.dots, hgp]
          simp [h.ended]
      · refine .inr ⟨?_, ?_⟩
        · unfold Grp.whole
          rw [h.dots, h.gapped, hgp]
          by_cases hg0' : 0 ≤ x.gap
          · have : ¬ g.colons = 2 := fun k => hg ⟨hg0', (h.colons2 hp hg0').1 k⟩
            simp [hg0', this]
          · simp [hg0']
        · unfold whole6 givenG
          rw [hg0, if_neg (by simp), if_neg (fun k => k.1 hp), if_neg (fun k => hg k.2)]
    · have hgp : g.part ≠ [] := fun k => hp (by rw [← h.part, k]; rfl)
      have hgr : grpB x.part = true := h.okp.resolve_left hp
      have hrp := h.roomp hp
      have e1 : givenG x = some (x.L ++ [valF x.part]) := by
        unfold givenG
        rw [if_pos hgr]
      have e2 : g.given = flat2 (x.L ++ [valF x.part]) := by
        unfold Grp.given
        rw [h.dots, if_neg (by simp), if_pos hgp, h.ended, h.value, flat2_app]
        rfl
      have el : (x.L ++ [valF x.part]).length = x.L.length + 1 := by simp
      by_cases hg : 0 ≤ x.gap
      · refine .inl ⟨?_, fin _ e1 e2 h.gapped (fun k => ⟨(h.gap k).1, by have := (h.gap k).2; rw [el]; omega, by rw [el]; rw [if_pos hg] at hx8; omega⟩) (fun k => by omega)⟩
        unfold Grp.whole
        rw [h.dots, h.gapped]
        simp [hg, hgp]
      · rw [if_neg hg] at hx8
        by_cases h7 : x.L.length = 7
        · refine .inl ⟨?_, fin _ e1 e2 h.gapped (fun k => absurd k hg) (fun _ => by rw [el]; omega)⟩
          unfold Grp.whole
          rw [h.dots, h.gapped]
          have : g.room = 2 := by omega
          simp [hg, hgp, this]
        · refine .inr ⟨?_, ?_⟩
          · unfold Grp.whole
            rw [h.dots, h.gapped]
            have : ¬ g.room = 2 := by omega
            simp [hg, hgp, this]
          · unfold whole6
            rw [e1]
            simp only
            rw [if_pos (by omega), if_neg (by rw [el]; omega)]
  · have hx8 : x.room = if 0 ≤ x.gap then 7 else 8 := rfl
    have hng0 : grpB x.part = false := by simpa using h.nog []
    obtain ⟨P, q, hr⟩ := h.rel
    have hrm := h.room
    have hwh := hr.who
    by_cases hw : g.tail.whole = true
    · have hn := begN_full x.part hr.beg x.part.length 0 (by omega)
      have ha : (rparse4 x.part).1 = g.tail.addr := by
        unfold rparse4
        simp only
        rw [hn, if_neg (by rw [hwh, hw]; simp)]
        exact hr.addr hw
      have hok := h.ok
      have e1 : givenG x = some (x.L ++ [g.tail.e0 * 256 + g.tail.e1, g.tail.e2 * 256 + g.tail.num.value]) := by
        unfold givenG
        rw [hng0, if_neg (by simp), if_pos ⟨h.ne, by rw [hwh]; exact hw⟩, ha]
        rfl
      have hnum := hok.num
      have b0 := hok.e0
      have b1 := hok.e1
      have b2 := hok.e2
      unfold Num.Ok at hnum
      unfold Byte at b0 b1 b2
      have e2 : g.given = flat2 (x.L ++ [g.tail.e0 * 256 + g.tail.e1, g.tail.e2 * 256 + g.tail.num.value]) := by
        unfold Grp.given
        rw [h.dots, if_pos rfl, h.ended, flat2_app]
        unfold Dot.addr flat2
        simp
        omega
      have el : (x.L ++ [g.tail.e0 * 256 + g.tail.e1, g.tail.e2 * 256 + g.tail.num.value]).length = x.L.length + 2 := by simp
      refine .inl ⟨by unfold Grp.whole; rw [h.dots, if_pos rfl]; exact hw, fin _ e1 e2 h.gapped (fun k => ⟨(h.gap k).1, by have := (h.gap k).2; rw [el]; omega, by rw [el]; rw [if_pos k] at hx8; omega⟩) (fun k => ?_)⟩
      rw [el]
      have := h.place
      omega
    · refine .inr ⟨by unfold Grp.whole; rw [h.dots, if_pos rfl]; simpa using hw, ?_⟩
      unfold whole6 givenG
      rw [hng0, if_neg (by simp), if_neg (fun k => hw (by rw [← hwh]; exact k.2)), if_neg (fun k => h.ne k.1)]

theorem read6_both : ∀ (l : List UInt8) (pre : List Int) (g : Grp) (x : SixS), I6 pre g x → ∀ L, L = pre ++ l.map toI →
    match grpReader.read l pre.length g with
    | .bad n => ∃ y, read6 L l.length pre.length x = (y, n) ∧ (n < L.length ∨ whole6 y = none)
    | .good g' => ∃ y G, read6 L l.length pre.length x = (y, L.length) ∧ whole6 y = some G ∧ flat2 G = g'.addr ∧ G.length = 8
  | [], pre, g, x, h, L, hL => by
    simp at hL
    subst hL
    unfold Reader.read
    have e : grpReader.whole g = g.whole := rfl
    rw [e]
    rcases whole_both h with ⟨w1, G, w2, w3, w4⟩ | ⟨w1, w2⟩
    · rw [if_pos w1]
      exact ⟨x, G, rfl, w2, w3, w4⟩
    · rw [if_neg (by rw [w1]; simp)]
      exact ⟨x, rfl, .inr w2⟩
  | c :: l, pre, g, x, h, L, hL => by
    unfold Reader.read
    have e : grpReader.take g ((c.toNat : Nat) : Int) = g.take (toI c) := rfl
    rw [e]
    have hrd : read6 L (c :: l).length pre.length x = match x.step L pre.length (L.getD pre.length 0) with
      | none => (x, pre.length)
      | some y => read6 L l.length (pre.length + 1) y := rfl
    have hget : L.getD pre.length 0 = toI c := by
      rw [hL, List.getD_eq_getElem?_getD, List.getElem?_append_right (Nat.le_refl _)]
      simp
    rw [hrd, hget]
    rcases step_both h (l.map toI) c with ⟨g', x', h1, h2, h3⟩ | ⟨h1, h2⟩
    · have ih := read6_both l (pre ++ [toI c]) g' x' h3 L (by rw [hL]; simp)
      rw [h1]
      have h2' : x.step L pre.length (toI c) = some x' := by rw [hL]; exact h2
      rw [h2']
      rw [List.length_append, List.length_singleton] at ih
      exact ih
    · rw [h1]
      have h2' : x.step L pre.length (toI c) = none := by rw [hL]; exact h2
      rw [h2']
      exact ⟨x, rfl, .inl (by rw [hL]; simp)⟩

/-- Both readers of IPv6 addresses are one. -/
theorem parse6_both (l : List UInt8) : rparse6 (l.map toI) = ((parse6 l).1, ((parse6 l).2.1 : Int), (parse6 l).2.2) := by
  have h := read6_both l [] Grp.new ⟨[], -1, []⟩ (.inl S6.new) _ rfl
  unfold parse6 rparse6
  simp only [List.length_nil, List.nil_append, List.length_map] at h ⊢
  cases hr : grpReader.read l 0 Grp.new with
  | bad n =>
    rw [hr] at h
    obtain ⟨y, h1, h2⟩ := h
    rw [h1]
    simp only
    by_cases hn : n < l.length
    · rw [if_pos hn]
    · rw [if_neg hn, h2.resolve_left hn]
  | good g =>
    rw [hr] at h
    obtain ⟨y, G, h1, h2, h3, _⟩ := h
    rw [h1]
    simp only
    rw [if_neg (by omega), h2, ← h3]
    rfl
end Go.Proofs.YtlpbffcijhgelaaDoor

namespace Go.Proofs.YtlpbffcijhgelaaDoor
open Go Go.RowKit
set_option linter.unusedVariables false
set_option linter.unusedSimpArgs false

theorem Grp.take_slash (g : Grp) : g.take 47 = none := by
  unfold Grp.take
  split
  · have : g.tail.take 47 = none := by
      unfold Dot.take
      simp [Num.take]
    rw [this]
    rfl
  · rw [if_neg (by decide), if_neg (by decide)]
    unfold Grp.digit
    have e : hexv 47 = none := by decide
    rw [e]

theorem Reader.takes_read {σ : Type} (R : Reader σ) : ∀ (l : List UInt8) (pos : Nat) (s s' : σ), R.read l pos s = .good s' → R.takes l s = some s' ∧ R.whole s' = true
  | [], pos, s, s', h => by
    unfold Reader.read at h
    split at h
    · rename_i hw
      injection h with h
      subst h
      exact ⟨rfl, hw⟩
    · cases h
  | c :: l, pos, s, s', h => by
    unfold Reader.read at h
    split at h
    · cases h
    · rename_i q hq
      obtain ⟨h1, h2⟩ := Reader.takes_read R l _ q s' h
      refine ⟨?_, h2⟩
      unfold Reader.takes
      have hq' : R.take s ((c.toNat : Nat) : Int) = some q := hq
      rw [hq']
      exact h1

theorem preR_take {σ : Type} (R : Reader σ) (m : Int) (p : Pre σ) (r : Int) : (preReader R m).take p r = preTake R m p r := rfl

theorem pre_addr_takes (N : Num) : ∀ (l : List UInt8) (s s' : Grp), grpReader.takes l s = some s' → (preReader grpReader 128).takes l ⟨s, false, N⟩ = some ⟨s', false, N⟩
  | [], s, s', h => by cases h; rfl
  | c :: l, s, s', h => by
    unfold Reader.takes at h ⊢
    cases ht : grpReader.take s ((c.toNat : Nat) : Int) with
    | none => rw [ht] at h; cases h
    | some q =>
      rw [ht] at h
      have hne : ((c.toNat : Nat) : Int) ≠ 47 := fun e => by
        rw [e] at ht
        have : grpReader.take s 47 = none := Grp.take_slash s
        rw [this] at ht
        cases ht
      have e : (preReader grpReader 128).take ⟨s, false, N⟩ ((c.toNat : Nat) : Int) = some ⟨q, false, N⟩ := by
        rw [preR_take]
        unfold preTake
        rw [if_neg (fun k => by cases k), if_neg (fun k => hne k.1), ht]
        rfl
      rw [e]
      exact pre_addr_takes N l q s' h

def numY : List UInt8 → Num → Option Num
  | [], n => some n
  | c :: l, n => (n.take ((c.toNat : Nat) : Int) 128).bind (numY l)
theorem pre_num_takes (s : Grp) : ∀ (l : List UInt8) (n n' : Num), numY l n = some n' → (preReader grpReader 128).takes l ⟨s, true, n⟩ = some ⟨s, true, n'⟩
  | [], n, n', h => by cases h; rfl
  | c :: l, n, n', h => by
    unfold numY at h
    unfold Reader.takes
    cases ht : n.take ((c.toNat : Nat) : Int) 128 with
    | none => rw [ht] at h; cases h
    | some q =>
      rw [ht] at h
      have e : (preReader grpReader 128).take ⟨s, true, n⟩ ((c.toNat : Nat) : Int) = some ⟨s, true, q⟩ := by
        rw [preR_take]
        unfold preTake
        rw [if_pos rfl, ht]
        rfl
      rw [e]
      exact pre_num_takes s l q n' h
theorem num_said : ∀ n : Fin 129, numY (Lib.itoa (n.val : Int)) ⟨0, false⟩ = some ⟨(n.val : Int), true⟩ := by decide +kernel

/-- The groups of an address's bytes. -/
def prs : List Int → List Int
  | a :: b :: r => (a * 256 + b) :: prs r
  | _ => []

theorem prs_byt (L : List Int) (hf : FitB L) (hl : L.length = 16) : byt (prs L) = L ∧ (prs L).length = 8 ∧ ∀ x ∈ prs L, 0 ≤ x ∧ x < 65536 := by
  obtain ⟨a0, a1, a2, a3, a4, a5, a6, a7, a8, a9, a10, a11, a12, a13, a14, a15, rfl⟩ := six16 hl
  have hd : ∀ a b : Int, (0 ≤ b ∧ b < 256) → (a * 256 + b) / 256 = a ∧ (a * 256 + b) % 256 = b := fun a b h => by omega
  have hz := fun z h => hf z h
  simp only [List.mem_cons, List.not_mem_nil, or_false, forall_eq_or_imp, forall_eq] at hz
  obtain ⟨z0, z1, z2, z3, z4, z5, z6, z7, z8, z9, z10, z11, z12, z13, z14, z15⟩ := hz
  refine ⟨?_, rfl, ?_⟩
  · simp only [prs, byt, List.flatMap_cons, List.flatMap_nil, List.append_nil, List.cons_append, List.nil_append, (hd a0 a1 z1).1, (hd a0 a1 z1).2, (hd a2 a3 z3).1, (hd a2 a3 z3).2, (hd a4 a5 z5).1, (hd a4 a5 z5).2, (hd a6 a7 z7).1, (hd a6 a7 z7).2, (hd a8 a9 z9).1, (hd a8 a9 z9).2, (hd a10 a11 z11).1, (hd a10 a11 z11).2, (hd a12 a13 z13).1, (hd a12 a13 z13).2, (hd a14 a15 z15).1, (hd a14 a15 z15).2]
  · intro x hx
    simp only [prs, List.mem_cons, List.not_mem_nil, or_false] at hx
    rcases hx with rfl | rfl | rfl | rfl | rfl | rfl | rfl | rfl <;> omega

def say6T (L : List Int) (n : Int) : List UInt8 := own6 (prs L) ++ [47] ++ Lib.itoa n

theorem prefix6_back (L : List Int) (n : Int) (hf : FitB L) (hl : L.length = 16) (hn : 0 ≤ n ∧ n ≤ 128) (pos : Nat) : ∃ p, (preReader grpReader 128).read (say6T L n) pos Pre.new6 = .good p ∧ p.addr.addr = L ∧ p.num.value = n := by
  obtain ⟨hb, h8, h16⟩ := prs_byt L hf hl
  have hp := parse_own6 (prs L) h16 h8
  unfold parse6 at hp
  cases hx : grpReader.read (own6 (prs L)) 0 Grp.new with
  | bad k =>
    rw [hx] at hp
    simp at hp
  | good g =>
    rw [hx] at hp
    have hga : g.addr = L := by
      have := congrArg Prod.fst hp
      simp only at this
      rw [this, hb]
    obtain ⟨ht, hw⟩ := Reader.takes_read grpReader _ _ _ _ hx
    have t1 := pre_addr_takes ⟨0, false⟩ _ _ _ ht
    have t2 : (preReader grpReader 128).takes [47] ⟨g, false, ⟨0, false⟩⟩ = some ⟨g, true, ⟨0, false⟩⟩ := by
      have e : (preReader grpReader 128).take ⟨g, false, ⟨0, false⟩⟩ 47 = some ⟨g, true, ⟨0, false⟩⟩ := by
        rw [preR_take]
        unfold preTake
        rw [if_neg (fun k => by cases k), if_pos ⟨rfl, hw⟩]
      show ((preReader grpReader 128).take _ 47).bind _ = _
      rw [e]
      rfl
    have hnn := num_said ⟨n.toNat, by omega⟩
    have en : ((n.toNat : Nat) : Int) = n := by omega
    simp only [en] at hnn
    have t3 := pre_num_takes g _ _ _ hnn
    refine ⟨⟨g, true, ⟨n, true⟩⟩, ?_, hga, rfl⟩
    refine Reader.read_takes _ _ _ _ _ ?_ rfl
    unfold say6T
    exact Reader.takes_on (Reader.takes_on t1 t2) t3

end Go.Proofs.YtlpbffcijhgelaaDoor

namespace Go.Proofs.YtlpbffcijhgelaaDoor
open Go Go.RowKit
set_option linter.unusedVariables false
set_option linter.unusedSimpArgs false

theorem tabs_on {w w' : World} (h : Tabs w) (hb : Below w.heap.size w w') : Tabs w' := fun x hx => h x (hb.trans (hx.mono hb.size))

def say4E (a0 a1 a2 a3 n : Int) : Value :=
  if okP4 a0 a1 a2 a3 n then .tuple #[.string ((⟨(text4 [a0, a1, a2, a3]).toArray⟩ : ByteArray) ++ ⟨#[47]⟩ ++ ⟨(Lib.itoa n).toArray⟩), .int .i64 0] else .tuple #[.string ⟨#[]⟩, .int .i64 22]

theorem text4_len {a0 a1 a2 a3 : Int} (h0 : Byte a0) (h1 : Byte a1) (h2 : Byte a2) (h3 : Byte a3) : (text4 [a0, a1, a2, a3]).length ≤ 4003 := by
  have l0 := itoa_len h0
  have l1 := itoa_len h1
  have l2 := itoa_len h2
  have l3 := itoa_len h3
  simp [text4, Lib.join]
  omega

set_option maxHeartbeats 8000000 in
set_option maxRecDepth 100000 in
theorem say4_calls (a0 a1 a2 a3 n : Int) (w : World) (h0 : Byte a0) (h1 : Byte a1) (h2 : Byte a2) (h3 : Byte a3) (hb : -9223372036854775808 ≤ n ∧ n ≤ 9223372036854775807) (ht : Tabs w) :
    Calls Tryd.prog 26 #[P4 a0 a1 a2 a3 n] w fun e w' => e = .returned (say4E a0 a1 a2 a3 n) ∧ Below w.heap.size w w' := by
  have HC : Hid _ := fun W => Check4_calls a0 a1 a2 a3 n W h0 h1 h2 h3 hb
  have HX : Hid (∀ W, Tabs W → Calls Tryd.prog 15 #[addrV [a0, a1, a2, a3]] W fun e w' => e = .returned (.string ⟨(text4 [a0, a1, a2, a3]).toArray⟩) ∧ Below W.heap.size W w') := fun W => text4_calls a0 a1 a2 a3 h0 h1 h2 h3 W
  have hSz : (⟨(text4 [a0, a1, a2, a3]).toArray⟩ : ByteArray).size ≤ 4003 := text4_len h0 h1 h2 h3
  have HT : Hid (Tabs w) := ht
  clear ht
  go_enter Tryd.func26, Tryd.ntmps26
  go_wp2_with fail
  refine Calls.mono (HC.out _) ?_
  rintro e w1 ⟨rfl, hB1⟩
  obtain ⟨c0, c1, c2, c3, c4⟩ := box5 w _ _ _ _ _ _ hB1
  have hB : Below w.heap.size w w1 := ((Below.refl _ w).alloc (Nat.le_refl _) _).trans (hB1.mono (by simp))
  have HU : Hid (Tabs w1) := tabs_on (w := w) HT.out hB
  have lt := World.block_lt_of_cell? w1 _ c4
  clear hB1 HC
  cases hq : okP4 a0 a1 a2 a3 n
  · have HE : Hid (say4E a0 a1 a2 a3 n = .tuple #[.string ⟨#[]⟩, .int .i64 22]) := by unfold say4E; rw [hq]; rfl
    simp only [Bool.false_eq_true, if_false]
    go_wp2
    go_ret2
    exact ⟨by rw [HE.out]; rfl, hB⟩
  · have HE : Hid (say4E a0 a1 a2 a3 n = .tuple #[.string ((⟨(text4 [a0, a1, a2, a3]).toArray⟩ : ByteArray) ++ ⟨#[47]⟩ ++ ⟨(Lib.itoa n).toArray⟩), .int .i64 0]) := by unfold say4E; rw [hq]; rfl
    have hn : Byte n := by
      unfold okP4 at hq
      simp only [Bool.and_eq_true, decide_eq_true_eq] at hq
      exact ⟨by omega, by omega⟩
    have HI : Hid _ := fun W => itoa_calls n hn W
    have hIz : (⟨(Lib.itoa n).toArray⟩ : ByteArray).size ≤ 1000 := itoa_len hn
    generalize (⟨(text4 [a0, a1, a2, a3]).toArray⟩ : ByteArray) = S at HX HE hSz
    generalize (⟨(Lib.itoa n).toArray⟩ : ByteArray) = I at HI HE hIz
    have cat1 : ∀ W, (Op.stringOp .add S ⟨#[47]⟩).run Tryd.prog W = .ok (.string (S ++ ⟨#[47]⟩)) W := fun W => run_string_add_sum W _ _ (by show S.size + 1 ≤ _; omega)
    have hSq : (S ++ (⟨#[47]⟩ : ByteArray)).size ≤ 4004 := by rw [ByteArray.size_append']; show S.size + 1 ≤ _; omega
    generalize hS2 : S ++ (⟨#[47]⟩ : ByteArray) = S2 at HE hSq cat1
    have cat2 : ∀ W, (Op.stringOp .add S2 I).run Tryd.prog W = .ok (.string (S2 ++ I)) W := fun W => run_string_add_sum W _ _ (by omega)
    clear hS2 hSz hSq hIz
    simp only [if_true]
    go_wp2_with fail
    go_region_with (first
      | (go_at_call 15; refine Calls.mono (HX.out _ (tabs_on (w := w1) HU.out (Below.refl _ _).drew)) ?_; rintro e w2 ⟨rfl, hB2⟩; have BB := ((Below.refl w1.heap.size w1).drew).trans hB2; have q4 := (BB.cell (p := ⟨w.heap.size, 4, none⟩) lt).trans c4)
      | (go_at_call 54; refine Calls.mono (HI.out _ (HU.out _ BB)) ?_; rintro e w3 ⟨rfl, hB3⟩; have BC := BB.trans (hB3.mono BB.size)))
    all_goals
      go_wp2
      go_ret2
      exact ⟨by rw [HE.out]; rfl, hB.trans (BC.mono hB.size)⟩

end Go.Proofs.YtlpbffcijhgelaaDoor

namespace Go.Proofs.YtlpbffcijhgelaaDoor
open Go Go.RowKit
set_option linter.unusedVariables false
set_option linter.unusedSimpArgs false

theorem text6_L (L : List Int) (hf : FitB L) (hl : L.length = 16) (w : World) (ht : Tz w) :
    Calls Tryd.prog 20 #[A6 L] w fun e w' => e = .returned (strV (own6 (prs L))) ∧ Below w.heap.size w w' := by
  obtain ⟨a0, a1, a2, a3, a4, a5, a6, a7, a8, a9, a10, a11, a12, a13, a14, a15, rfl⟩ := six16 hl
  have hz := fun z h => hf z h
  simp only [List.mem_cons, List.not_mem_nil, or_false, forall_eq_or_imp, forall_eq] at hz
  obtain ⟨z0, z1, z2, z3, z4, z5, z6, z7, z8, z9, z10, z11, z12, z13, z14, z15⟩ := hz
  exact text6_all a0 a1 a2 a3 a4 a5 a6 a7 a8 a9 a10 a11 a12 a13 a14 a15 z0 z1 z2 z3 z4 z5 z6 z7 z8 z9 z10 z11 z12 z13 z14 z15 w ht

def say6E (L : List Int) (n : Int) : Value :=
  if okP6 L n then .tuple #[.string ((⟨(own6 (prs L)).toArray⟩ : ByteArray) ++ ⟨#[47]⟩ ++ ⟨(Lib.itoa n).toArray⟩), .int .i64 0] else .tuple #[.string ⟨#[]⟩, .int .i64 22]

set_option maxHeartbeats 4000000 in
set_option maxRecDepth 100000 in
theorem say6_calls (L : List Int) (n : Int) (hf : FitB L) (hl : L.length = 16) (w : World) (hb : -9223372036854775808 ≤ n ∧ n ≤ 9223372036854775807) (ht : Tabs w) (htz : Tz w) :
    Calls Tryd.prog 28 #[P6 L n] w fun e w' => PxPost (say6E L n) w e w' := by
  generalize hQ : (fun e w' => PxPost (say6E L n) w e w') = Q
  have HQ : Hid _ := hQ
  clear hQ
  have HC : Hid _ := fun W => Check6_calls L n W hf hl hb
  have hB0 := (Below.refl w.heap.size w).alloc (Nat.le_refl _) (.cells (cp6 L n).toArray 40)
  have hb0 := blk_new w (.cells (cp6 L n).toArray 40)
  generalize hW0 : w.alloc (.cells (cp6 L n).toArray 40) = W0 at *
  have HW0 : Hid _ := hW0
  have HLP : Hid _ := loadP6 hl (CellsAt.pfx hl hb0).1
  clear hW0
  go_enter Tryd.func28, Tryd.ntmps28
  go_wp2_with first
    | ((with_reducible show wpList _ _ _ _ _ _); rw [HW0.out]; refine armL (.tmp 1) 40 rfl rfl rfl HLP.out ?_)
  refine Calls.mono (HC.out _) ?_
  rintro e w1 ⟨rfl, hB1⟩
  have hBw1 := hB0.trans (hB1.mono hB0.size)
  have hb1 := (hB1.block w.heap.size (Array.getElem?_eq_some_iff.1 hb0).1).trans hb0
  have HT : Hid (Tabs w1) := tabs_on (w := w) ht hBw1
  have HZ : Hid (Tz w1) := Tz.on htz hBw1
  have l1 := (Array.getElem?_eq_some_iff.1 hb1).1
  clear HC HLP HW0 hb0 hB0 hB1 ht htz
  cases hq : okP6 L n
  · have HE : Hid (say6E L n = .tuple #[.string ⟨#[]⟩, .int .i64 22]) := by unfold say6E; rw [hq]; rfl
    simp only [Bool.false_eq_true, if_false]
    go_wp2
    try go_ret2
    rw [← HQ.out]
    exact ⟨by rw [HE.out]; rfl, hBw1⟩
  · have HE : Hid (say6E L n = .tuple #[.string ((⟨(own6 (prs L)).toArray⟩ : ByteArray) ++ ⟨#[47]⟩ ++ ⟨(Lib.itoa n).toArray⟩), .int .i64 0]) := by unfold say6E; rw [hq]; rfl
    have hn : 0 ≤ n ∧ n ≤ 128 := by
      unfold okP6 at hq
      simp only [Bool.and_eq_true, decide_eq_true_eq] at hq
      exact hq.1
    have HX : Hid (∀ x : Hi w1, Calls Tryd.prog 20 #[A6 L] x.W fun e w' => e = .returned (strV (own6 (prs L))) ∧ Below x.W.heap.size x.W w') := fun x => text6_L L hf hl x.W (Tz.on HZ.out x.below)
    have HI : Hid (∀ x : Hi w1, Calls Tryd.prog 54 #[.int .i64 n] x.W fun e w' => e = .returned (.string ⟨(Lib.itoa n).toArray⟩) ∧ Below x.W.heap.size x.W w') := fun x => itoa_calls n ⟨by omega, by omega⟩ x.W (HT.out _ x.below)
    have HL6 : Hid (∀ x : Hi w1, (Instr.loadAt 31 (.pointer (some ⟨w.heap.size, 0, none⟩))).run Tryd.prog x.W = .ok (A6 L) x.W) := fun x => load6 hl (CellsAt.pfx hl (Hi.blk hb1 x)).2.1
    have c16 : ∀ x : Hi w1, x.W.cell? ⟨w.heap.size, 16, none⟩ = some (.int .i64 n) := fun x => (CellsAt.pfx hl (Hi.blk hb1 x)).2.2
    have hSz : (⟨(own6 (prs L)).toArray⟩ : ByteArray).size ≤ 202 := own_len (prs L) (prs_byt L hf hl).2.1
    have hIz : (⟨(Lib.itoa n).toArray⟩ : ByteArray).size ≤ 1000 := itoa_len ⟨by omega, by omega⟩
    have HX' : Hid (∀ x : Hi w1, Calls Tryd.prog 20 #[A6 L] x.W fun e w' => e = .returned (.string ⟨(own6 (prs L)).toArray⟩) ∧ Below x.W.heap.size x.W w') := HX.out
    generalize (⟨(own6 (prs L)).toArray⟩ : ByteArray) = S at HX' HE hSz
    generalize (⟨(Lib.itoa n).toArray⟩ : ByteArray) = I at HI HE hIz
    have cat1 : ∀ W, (Op.stringOp .add S ⟨#[47]⟩).run Tryd.prog W = .ok (.string (S ++ ⟨#[47]⟩)) W := fun W => run_string_add_sum W _ _ (by show S.size + 1 ≤ _; omega)
    have hSq : (S ++ (⟨#[47]⟩ : ByteArray)).size ≤ 4004 := by rw [ByteArray.size_append']; show S.size + 1 ≤ _; omega
    generalize hS2 : S ++ (⟨#[47]⟩ : ByteArray) = S2 at HE hSq cat1
    have cat2 : ∀ W, (Op.stringOp .add S2 I).run Tryd.prog W = .ok (.string (S2 ++ I)) W := fun W => run_string_add_sum W _ _ (by omega)
    clear hS2 hSz hSq hIz HX
    simp only [if_true]
    go_wp2_with fail
    refine wp_region_hi (by kernel_rfl) (by kernel_rfl) ?_
    repeat (first | go_big_quiet_skip | (go_big_quiet_want; refine hi_load (.tmp 10) 31 rfl rfl HL6.out ?_; simp only [Act.put, List.setIfInBounds_toArray, List.set_cons_zero, List.set_cons_succ]; go_big_quiet_on) | (go_big_quiet_want; go_big_quiet_op; first | go_big_quiet_on | go_big_quiet_call (first | (go_at_call 20; with_reducible exact Hi.calls (HX'.out _)) | (go_at_call 54; with_reducible exact Hi.calls (HI.out _)))))
    refine wpQuiet_nil ?_
    intro _ hw
    obtain ⟨y, rfl⟩ := hw
    go_wp2
    try go_ret2
    rw [← HQ.out]
    exact ⟨by rw [HE.out]; rfl, hBw1.trans (y.below.mono hBw1.size)⟩

end Go.Proofs.YtlpbffcijhgelaaDoor

namespace Go.Proofs.YtlpbffcijhgelaaDoor
open Go Go.RowKit
set_option linter.unusedVariables false
set_option linter.unusedSimpArgs false

def numX (n : Num) : List UInt8 := if n.begun then Lib.itoa n.value else []

theorem itoa_one {c : UInt8} (h : 48 ≤ c.toNat ∧ c.toNat ≤ 57) : Lib.itoa ((c.toNat : Int) - 48) = [c] := by
  have e : (((c.toNat : Int) - 48)).toNat = c.toNat - 48 := by omega
  unfold Lib.itoa
  rw [if_neg (by omega), e]
  unfold Lib.decDigits
  rw [dif_pos (by omega)]
  have hc : c = UInt8.ofNat c.toNat := by simp
  simp
  apply UInt8.toNat_inj.1
  simp
  omega

theorem itoa_snoc {v : Int} {c : UInt8} (hv : 0 < v) (h : 48 ≤ c.toNat ∧ c.toNat ≤ 57) : Lib.itoa (10 * v + ((c.toNat : Int) - 48)) = Lib.itoa v ++ [c] := by
  have e : (10 * v + ((c.toNat : Int) - 48)).toNat = 10 * v.toNat + (c.toNat - 48) := by omega
  unfold Lib.itoa
  rw [if_neg (by omega), if_neg (by omega), e]
  rw [Lib.decDigits, dif_neg (by omega)]
  have e1 : (10 * v.toNat + (c.toNat - 48)) / 10 = v.toNat := by omega
  have e2 : (10 * v.toNat + (c.toNat - 48)) % 10 = c.toNat - 48 := by omega
  rw [e1, e2]
  congr 1
  simp
  apply UInt8.toNat_inj.1
  simp
  omega

def Num.Fresh (n : Num) : Prop := n.begun = false → n.value = 0

theorem num_text {n n' : Num} {c : UInt8} {most : Int} (h : n.take c.toNat most = some n') (h0 : 0 ≤ n.value) (hf : n.Fresh) : numX n' = numX n ++ [c] ∧ n'.begun = true ∧ 0 ≤ n'.value := by
  unfold Num.take at h
  split at h
  · cases h
  · rename_i h1
    split at h
    · cases h
    · cases h
      unfold numX
      refine ⟨?_, rfl, by dsimp only; omega⟩
      dsimp only
      rw [if_pos rfl]
      cases hb : n.begun with
      | false =>
        rw [hf hb]
        simpa using itoa_one (c := c) (by omega)
      | true =>
        rw [hb] at h1
        rw [if_pos rfl]
        have hv : n.value ≠ 0 := fun k => h1 (.inr (.inr ⟨rfl, k⟩))
        exact itoa_snoc (by omega) (by omega)

def dotT (d : Dot) : List UInt8 :=
  (if 1 ≤ d.count then Lib.itoa d.e0 ++ [46] else []) ++ (if 2 ≤ d.count then Lib.itoa d.e1 ++ [46] else []) ++ (if 3 ≤ d.count then Lib.itoa d.e2 ++ [46] else []) ++ numX d.num

theorem dot_text {d d' : Dot} {c : UInt8} (h : d.take c.toNat = some d') (hd : d.Ok) (hf : d.num.Fresh) : dotT d' = dotT d ++ [c] ∧ d'.num.Fresh := by
  unfold Dot.take at h
  split at h
  · cases hh : d.num.take c.toNat 255 with
    | none => rw [hh] at h; cases h
    | some n =>
      rw [hh] at h
      cases h
      obtain ⟨e1, e2, e3⟩ := num_text hh hd.num.1 hf
      refine ⟨?_, fun k => ?_⟩
      · unfold dotT
        dsimp only
        rw [e1]
        simp only [List.append_assoc]
      · dsimp only at k
        rw [e2] at k
        cases k
  · rename_i hc
    have hc : c = 46 := UInt8.toNat_inj.1 (by simp; omega)
    subst hc
    split at h
    · cases h
    · rename_i hk
      cases h
      have hb : d.num.begun = true := by
        cases hb : d.num.begun with
        | true => rfl
        | false => exact absurd (.inl hb) hk
      have h3 : d.count ≠ 3 := fun k => hk (.inr k)
      have hcc := hd.count
      have ht : numX d.num = Lib.itoa d.num.value := by unfold numX; rw [if_pos hb]
      unfold dotT
      rw [ht]
      unfold Dot.put
      split
      · rename_i q
        refine ⟨?_, fun _ => rfl⟩
        simp [q, numX, Num.new]
      · split
        · rename_i q
          refine ⟨?_, fun _ => rfl⟩
          simp [q, numX, Num.new]
        · have q : d.count = 2 := by omega
          refine ⟨?_, fun _ => rfl⟩
          simp [q, numX, Num.new]

def preT (p : Pre Dot) : List UInt8 := dotT p.addr ++ (if p.slashed then 47 :: numX p.num else [])

structure PreOk (p : Pre Dot) : Prop where
  ok : p.addr.Ok
  fresh : p.addr.num.Fresh
  pos : 0 ≤ p.num.value
  fresh2 : p.num.Fresh
  not : p.slashed = false → p.num.begun = false
  yes : p.slashed = true → p.addr.whole = true

theorem pre_text {p p' : Pre Dot} {c : UInt8} {most : Int} (h : preTake dotReader most p c.toNat = some p') (hp : PreOk p) : preT p' = preT p ++ [c] ∧ PreOk p' := by
  unfold preTake at h
  cases hs : p.slashed with
  | true =>
    rw [if_pos hs] at h
    cases hn : p.num.take c.toNat most with
    | none => rw [hn] at h; cases h
    | some n =>
      rw [hn] at h
      cases h
      obtain ⟨e1, e2, e3⟩ := num_text hn hp.pos hp.fresh2
      refine ⟨?_, hp.ok, hp.fresh, e3, fun k => ?_, fun k => ?_, hp.yes⟩
      · simp [preT, hs, e1]
      · dsimp only at k; rw [e2] at k; cases k
      · dsimp only at k; rw [hs] at k; cases k
  | false =>
    rw [if_neg (by rw [hs]; decide)] at h
    split at h
    · rename_i hw
      cases h
      have hc : c = 47 := UInt8.toNat_inj.1 (by have := hw.1; simp; omega)
      subst hc
      refine ⟨?_, hp.ok, hp.fresh, hp.pos, hp.fresh2, fun k => (by cases k), fun _ => hw.2⟩
      simp [preT, hs, numX, hp.not hs]
    · cases hn : dotReader.take p.addr c.toNat with
      | none => rw [hn] at h; cases h
      | some d =>
        rw [hn] at h
        cases h
        have hn' : p.addr.take c.toNat = some d := hn
        obtain ⟨e1, e2⟩ := dot_text hn' hp.ok hp.fresh
        refine ⟨?_, Dot.take_ok hn' hp.ok, e2, hp.pos, hp.fresh2, hp.not, fun k => ?_⟩
        · simp [preT, hs, e1]
        · dsimp only at k; rw [hs] at k; cases k

theorem pre_read {most : Int} : ∀ (l : List UInt8) (pos : Nat) (p p' : Pre Dot), PreOk p → (preReader dotReader most).read l pos p = .good p' → preT p' = preT p ++ l ∧ PreOk p' ∧ p'.num.begun = true
  | [], pos, p, p', hp, h => by
    unfold Reader.read at h
    split at h
    · rename_i hw
      cases h
      exact ⟨by simp, hp, hw⟩
    · cases h
  | c :: l, pos, p, p', hp, h => by
    unfold Reader.read at h
    split at h
    · cases h
    · rename_i p1 h1
      obtain ⟨e1, e2⟩ := pre_text (most := most) h1 hp
      obtain ⟨f1, f2, f3⟩ := pre_read l (pos + 1) p1 p' e2 h
      exact ⟨by rw [f1, e1]; simp, f2, f3⟩

/-- What is read whole as a prefix is that prefix's text. -/
theorem prefix4_own {l : List UInt8} {p : Pre Dot} (h : (preReader dotReader 32).read l 0 Pre.new4 = .good p) :
    l = text4 [p.addr.e0, p.addr.e1, p.addr.e2, p.addr.num.value] ++ [47] ++ Lib.itoa p.num.value ∧ PreOk p := by
  obtain ⟨h1, h2, h3⟩ := pre_read l 0 _ p ⟨Dot.ok_new, fun _ => rfl, by decide, fun _ => rfl, fun _ => rfl, fun k => by cases k⟩ h
  have hs : p.slashed = true := by
    cases hs : p.slashed with
    | true => rfl
    | false => rw [h2.not hs] at h3; cases h3
  have hw := h2.yes hs
  unfold Dot.whole at hw
  simp only [Bool.and_eq_true, decide_eq_true_eq] at hw
  have e0 : preT Pre.new4 = [] := rfl
  rw [e0, List.nil_append] at h1
  refine ⟨?_, h2⟩
  rw [← h1]
  simp [preT, dotT, numX, hs, h3, hw.1, hw.2, text4, Lib.join]

end Go.Proofs.YtlpbffcijhgelaaDoor

namespace Go.Proofs.YtlpbffcijhgelaaDoor
open Go Go.RowKit
set_option linter.unusedVariables false
set_option linter.unusedSimpArgs false

theorem ok_read {σ : Type} {R : Reader σ} {O : σ → Prop} (hO : ∀ s r s', R.take s r = some s' → O s → O s') : ∀ (l : List UInt8) (pos : Nat) (p p' : σ), O p → R.read l pos p = .good p' → O p'
  | [], pos, p, p', h1, h => by
    unfold Reader.read at h
    split at h
    · injection h with h
      rw [← h]
      exact h1
    · cases h
  | c :: l, pos, p, p', h1, h => by
    unfold Reader.read at h
    split at h
    · cases h
    · rename_i q hq
      exact ok_read hO l _ q p' (hO _ _ _ hq h1) h

theorem pre_okR {σ : Type} {R : Reader σ} {most : Int} {O : σ → Prop} (hO : ∀ s r s', R.take s r = some s' → O s → O s') : ∀ (l : List UInt8) (pos : Nat) (p p' : Pre σ), O p.addr → p.num.Ok most → (preReader R most).read l pos p = .good p' → O p'.addr ∧ p'.num.Ok most
  | [], pos, p, p', h1, h2, h => by
    unfold Reader.read at h
    split at h
    · injection h with h
      rw [← h]
      exact ⟨h1, h2⟩
    · cases h
  | c :: l, pos, p, p', h1, h2, h => by
    unfold Reader.read at h
    split at h
    · cases h
    · rename_i q hq
      have hq' : preTake R most p c.toNat = some q := hq
      have k : O q.addr ∧ q.num.Ok most := by
        unfold preTake at hq'
        split at hq'
        · obtain ⟨n, hn, rfl⟩ := Option.map_eq_some_iff.1 hq'
          exact ⟨h1, Num.take_ok hn h2⟩
        · split at hq'
          · cases hq'
            exact ⟨h1, h2⟩
          · obtain ⟨n, hn, rfl⟩ := Option.map_eq_some_iff.1 hq'
            exact ⟨hO _ _ _ hn h1, h2⟩
      exact pre_okR hO l _ q p' k.1 k.2 h

theorem pre_ok6 (l : List UInt8) (pos : Nat) (p p' : Pre Grp) (h1 : p.addr.Ok) (h2 : p.num.Ok 128) (h : (preReader grpReader 128).read l pos p = .good p') : p'.addr.Ok ∧ p'.num.Ok 128 := pre_okR (O := Grp.Ok) (fun s r s' h hk => Grp.take_ok h hk) l pos p p' h1 h2 h
theorem pre_ok4 (l : List UInt8) (pos : Nat) (p p' : Pre Dot) (h1 : p.addr.Ok) (h2 : p.num.Ok 32) (h : (preReader dotReader 32).read l pos p = .good p') : p'.addr.Ok ∧ p'.num.Ok 32 := pre_okR (O := Dot.Ok) (fun s r s' h hk => Dot.take_ok h hk) l pos p p' h1 h2 h

theorem zero_fit : FitB (List.replicate 16 0) := fun z hz => by rw [(List.mem_replicate.1 hz).2]; decide

/-- What Parse6 answers, whatever the text. -/
theorem parse6_any (s : ByteArray) (hs : s.size ≤ 140737488351232) : ∃ (L : List Int) (m e : Int), FitB L ∧ L.length = 16 ∧ ∀ W, Calls Tryd.prog 18 #[.string s] W fun e' w' => e' = .returned (.tuple #[A6 L, .int .i64 m, .int .i64 e]) ∧ Below W.heap.size W w' := by
  have hc := fun W => parse6_calls s (by omega) W
  unfold parse6 at hc
  cases hx : grpReader.read s.data.toList 0 Grp.new with
  | bad n => rw [hx] at hc; exact ⟨List.replicate 16 0, n, 20, zero_fit, rfl, fun W => hc W⟩
  | good g =>
    rw [hx] at hc
    have hok := ok_read (R := grpReader) (O := Grp.Ok) (fun s r s' h hk => Grp.take_ok h hk) _ _ _ _ Grp.ok_new hx
    have hw := read_good (R := grpReader) _ _ _ _ hx
    exact ⟨g.addr, 0, 0, Grp.addr_fit hok, Grp.addr_len hok hw, fun W => hc W⟩

/-- What is said of an address is parsed as it. -/
theorem parse6_text (L : List Int) (hf : FitB L) (hl : L.length = 16) (W : World) : Calls Tryd.prog 18 #[strV (own6 (prs L))] W fun e w' => e = .returned (.tuple #[A6 L, .int .i64 0, .int .i64 0]) ∧ Below W.heap.size W w' := by
  obtain ⟨hb, h8, h16⟩ := prs_byt L hf hl
  have hn := own_len (prs L) h8
  have hc := parse6_calls ⟨(own6 (prs L)).toArray⟩ (by show (own6 (prs L)).toArray.size ≤ _; simp; omega) W
  have e : parse6 (⟨(own6 (prs L)).toArray⟩ : ByteArray).data.toList = (byt (prs L), 0, 0) := parse_own6 (prs L) h16 h8
  rw [e, hb] at hc
  exact hc

/-- What Prefix6 answers, whatever the text. -/
theorem prefix6_any (s : ByteArray) (hs : s.size ≤ 140737488351232) : ∃ (L : List Int) (n m e : Int), FitB L ∧ L.length = 16 ∧ (e = 0 → okP6 L n = true ∧ 0 ≤ n ∧ n ≤ 128) ∧ ∀ W, Calls Tryd.prog 24 #[.string s] W fun e' w' => e' = .returned (.tuple #[P6 L n, .int .i64 m, .int .i64 e]) ∧ Below W.heap.size W w' := by
  have hc := fun W => prefix6_calls s (by omega) W
  cases hx : (preReader grpReader 128).read s.data.toList 0 Pre.new6 with
  | bad k => rw [hx] at hc; exact ⟨List.replicate 16 0, 0, k, 20, zero_fit, rfl, fun h => absurd h (by decide), fun W => hc W⟩
  | good p =>
    rw [hx] at hc
    have hk := pre_ok6 s.data.toList 0 Pre.new6 p Grp.ok_new ⟨by decide, by decide⟩ hx
    have hw := pre_whole_addr (R := grpReader) (most := 128) s.data.toList 0 Pre.new6 p (fun e => by cases e) (fun e => by cases e) hx
    cases hq : okP6 p.addr.addr p.num.value with
    | true => exact ⟨p.addr.addr, p.num.value, 0, 0, Grp.addr_fit hk.1, Grp.addr_len hk.1 hw, fun _ => ⟨hq, hk.2.1, hk.2.2⟩, fun W => Calls.mono (hc W) (fun e w' h => ⟨by rw [h.1]; unfold prefix6E; simp only [hq, if_true], h.2⟩)⟩
    | false => exact ⟨List.replicate 16 0, 0, Lib.indexByte s.data.toList 47, 21, zero_fit, rfl, fun h => absurd h (by decide), fun W => Calls.mono (hc W) (fun e w' h => ⟨by rw [h.1]; unfold prefix6E; simp only [hq, Bool.false_eq_true, if_false], h.2⟩)⟩

/-- What Say6 says of a prefix is read as it. -/
theorem prefix6_text (L : List Int) (n : Int) (hf : FitB L) (hl : L.length = 16) (hn : 0 ≤ n ∧ n ≤ 128) (hk : okP6 L n = true) (W : World) : Calls Tryd.prog 24 #[.string ((⟨(own6 (prs L)).toArray⟩ : ByteArray) ++ ⟨#[47]⟩ ++ ⟨(Lib.itoa n).toArray⟩)] W fun e w' => e = .returned (.tuple #[P6 L n, .int .i64 0, .int .i64 0]) ∧ Below W.heap.size W w' := by
  have hn1 := own_len (prs L) (prs_byt L hf hl).2.1
  have hn2 : (Lib.itoa n).length ≤ 1000 := itoa_len ⟨by omega, by omega⟩
  have e : ((⟨(own6 (prs L)).toArray⟩ : ByteArray) ++ ⟨#[47]⟩ ++ ⟨(Lib.itoa n).toArray⟩).data.toList = say6T L n := by
    rw [ByteArray.data_append, ByteArray.data_append]
    simp [say6T]
  have hc := prefix6_calls ((⟨(own6 (prs L)).toArray⟩ : ByteArray) ++ ⟨#[47]⟩ ++ ⟨(Lib.itoa n).toArray⟩) (by
    have h9 := congrArg List.length e
    simp only [say6T, List.length_append, List.length_cons, List.length_nil] at h9
    have h8 : ((⟨(own6 (prs L)).toArray⟩ : ByteArray) ++ ⟨#[47]⟩ ++ ⟨(Lib.itoa n).toArray⟩).size = (((⟨(own6 (prs L)).toArray⟩ : ByteArray) ++ ⟨#[47]⟩ ++ ⟨(Lib.itoa n).toArray⟩).data.toList).length := Array.length_toList.symm
    omega) W
  rw [e] at hc
  obtain ⟨p, hp, h1, h2⟩ := prefix6_back L n hf hl hn 0
  rw [hp] at hc
  refine Calls.mono hc (fun e w' h => ⟨?_, h.2⟩)
  rw [h.1]
  unfold prefix6E
  simp only [h1, h2, hk, if_true]

/-- What Prefix4 answers, whatever the text. -/
theorem prefix4_any (s : ByteArray) (hs : s.size ≤ 140737488351232) : ∃ (a0 a1 a2 a3 n m e : Int), (e ≠ 0 → a0 = 0 ∧ a1 = 0 ∧ a2 = 0 ∧ a3 = 0 ∧ n = 0) ∧ (e = 0 → okP4 a0 a1 a2 a3 n = true ∧ Byte a0 ∧ Byte a1 ∧ Byte a2 ∧ Byte a3 ∧ (0 ≤ n ∧ n ≤ 32) ∧ s.data.toList = text4 [a0, a1, a2, a3] ++ [47] ++ Lib.itoa n) ∧ ∀ W, Calls Tryd.prog 22 #[.string s] W fun e' w' => e' = .returned (.tuple #[P4 a0 a1 a2 a3 n, .int .i64 m, .int .i64 e]) ∧ Below W.heap.size W w' := by
  have hc := fun W => prefix4_calls s (by omega) W
  cases hx : (preReader dotReader 32).read s.data.toList 0 Pre.new4 with
  | bad k => rw [hx] at hc; exact ⟨0, 0, 0, 0, 0, k, 20, fun _ => ⟨rfl, rfl, rfl, rfl, rfl⟩, fun h => absurd h (by decide), fun W => hc W⟩
  | good p =>
    rw [hx] at hc
    obtain ⟨ho, hp⟩ := prefix4_own hx
    have hd := hp.ok
    have hk := pre_ok4 s.data.toList 0 Pre.new4 p Dot.ok_new ⟨by decide, by decide⟩ hx
    cases hq : okP4 p.addr.e0 p.addr.e1 p.addr.e2 p.addr.num.value p.num.value with
    | true => exact ⟨p.addr.e0, p.addr.e1, p.addr.e2, p.addr.num.value, p.num.value, 0, 0, fun h => absurd rfl h, fun _ => ⟨hq, hk.1.e0, hk.1.e1, hk.1.e2, ⟨hk.1.num.1, by have := hk.1.num.2; omega⟩, ⟨hk.2.1, hk.2.2⟩, ho⟩, fun W => Calls.mono (hc W) (fun e w' h => ⟨by rw [h.1]; unfold prefix4E; simp only [hq, if_true], h.2⟩)⟩
    | false => exact ⟨0, 0, 0, 0, 0, Lib.indexByte s.data.toList 47, 21, fun _ => ⟨rfl, rfl, rfl, rfl, rfl⟩, fun h => absurd h (by decide), fun W => Calls.mono (hc W) (fun e w' h => ⟨by rw [h.1]; unfold prefix4E; simp only [hq, Bool.false_eq_true, if_false], h.2⟩)⟩

end Go.Proofs.YtlpbffcijhgelaaDoor
