/-
  The program's reader of IPv6 addresses and the document's are one plain function.
  What the document's Read6 comes to, plainly.
  The document's Whole6, of whatever was read.
-/
import Derived.Test.YtlpbffcijhgelaaDoorRa1
import Derived.Test.YtlpbffcijhgelaaDoorQa7
import Derived.Test.YtlpbffcijhgelaaDoorFold06
import Derived.Test.YtlpbffcijhgelaaDoorFold08
import Derived.Test.YtlpbffcijhgelaaDoorFold07
namespace Go.Proofs.YtlpbffcijhgelaaDoor
open Go
set_option linter.unusedVariables false
set_option linter.unusedSimpArgs false

abbrev toI (c : UInt8) : Int := ((c.toNat : Nat) : Int)
theorem toI_range (c : UInt8) : 0 ≤ toI c ∧ toI c < 256 := by
  have := c.toNat_lt
  unfold toI
  omega
/-- The bytes of groups. -/
def flat2 (l : List Int) : List Int := (l.map (fun z => [z / 256, z % 256])).flatten
theorem flat2_len (l : List Int) : (flat2 l).length = 2 * l.length := by
  unfold flat2
  induction l with
  | nil => rfl
  | cons a l ih => simp only [List.map_cons, List.flatten_cons, List.length_append, List.length_cons, List.length_nil, ih]; omega
theorem flat2_app (l m : List Int) : flat2 (l ++ m) = flat2 l ++ flat2 m := by simp [flat2]
theorem flat2_take (l : List Int) : ∀ k, (flat2 l).take (2 * k) = flat2 (l.take k) := by
  induction l with
  | nil => intro k; simp [flat2]
  | cons a l ih =>
    intro k
    cases k with
    | zero => simp [flat2]
    | succ k =>
      have e : flat2 (a :: l) = [a / 256, a % 256] ++ flat2 l := rfl
      have e2 : flat2 ((a :: l).take (k + 1)) = [a / 256, a % 256] ++ flat2 (l.take k) := rfl
      rw [e, e2, ← ih k, show 2 * (k + 1) = 2 * k + 2 by omega]
      simp
theorem flat2_drop (l : List Int) : ∀ k, (flat2 l).drop (2 * k) = flat2 (l.drop k) := by
  induction l with
  | nil => intro k; simp [flat2]
  | cons a l ih =>
    intro k
    cases k with
    | zero => simp [flat2]
    | succ k =>
      have e : flat2 (a :: l) = [a / 256, a % 256] ++ flat2 l := rfl
      rw [e, List.drop_succ_cons, ← ih k, show 2 * (k + 1) = 2 * k + 2 by omega]
      simp
theorem flat2_zero (n : Nat) : flat2 (List.replicate n 0) = List.replicate (2 * n) 0 := by
  induction n with
  | zero => rfl
  | succ n ih =>
    rw [List.replicate_succ, show 2 * (n + 1) = 2 * n + 1 + 1 by omega, List.replicate_succ, List.replicate_succ]
    have e : flat2 (0 :: List.replicate n 0) = [0 / 256, 0 % 256] ++ flat2 (List.replicate n 0) := rfl
    rw [e, ih]
    rfl
theorem split_some (c : Int) : ∀ (l cur : List Int), ∃ P q, splitA c cur l = P ++ [q]
  | [], cur => ⟨[], cur, rfl⟩
  | x :: l, cur => by
    rw [splitA]
    split
    · obtain ⟨P, q, e⟩ := split_some c l []
      exact ⟨cur :: P, q, by rw [e]; rfl⟩
    · exact split_some c l _
theorem oct_front {q : List Int} {x : Int} (h : octB (q ++ [x]) 255 = true) : octB q 255 = true ∧ (48 ≤ x ∧ x ≤ 57) := by
  have hne : (q ++ [x]).isEmpty = false := by cases q <;> rfl
  unfold octB at h ⊢
  rw [hne] at h
  simp only [Bool.false_or, Bool.and_eq_true, Bool.not_eq_true', Bool.or_eq_false_iff, Bool.and_eq_false_iff, decide_eq_false_iff_not, List.length_append, List.length_singleton, List.all_append, List.all_cons, List.all_nil, Bool.and_true, decide_eq_true_eq] at h
  obtain ⟨⟨h1, h2⟩, ⟨h3, h3'⟩, h4⟩ := h
  have hx : 48 ≤ x ∧ x ≤ 57 := by simpa [digB] using h3'
  refine ⟨?_, hx⟩
  cases q with
  | nil => rfl
  | cons a r =>
    simp only [List.isEmpty_cons, Bool.false_or, Bool.and_eq_true, Bool.not_eq_true', Bool.or_eq_false_iff, Bool.and_eq_false_iff, decide_eq_false_iff_not, decide_eq_true_eq]
    refine ⟨⟨?_, by omega⟩, h3, ?_⟩
    · rcases h1 with h1 | h1
      · left; simpa using h1
      · right; simp at h1
    · rw [num_snoc] at h4
      have := (numF_range (a :: r) 0 (by omega) h3).1
      omega
/-- What begins an address begins one without its last letter too. -/
theorem beg_front {l : List Int} {x : Int} (h : begB (l ++ [x]) = true) : begB l = true := by
  obtain ⟨P, q, e⟩ := split_some 46 l []
  have hs := split_snoc 46 x l [] P q e
  unfold begB at h ⊢
  rw [hs] at h
  rw [e]
  by_cases hx : x = 46
  · rw [if_pos hx, parts_snoc] at h
    simp only [Bool.and_eq_true, decide_eq_true_eq, List.length_append, List.length_singleton, List.all_append, List.all_cons, List.all_nil, Bool.and_true] at h
    obtain ⟨h1, ⟨h2, h3, h4⟩, h5⟩ := h
    rw [parts_snoc]
    simp only [Bool.and_eq_true, decide_eq_true_eq, List.length_append, List.length_singleton]
    exact ⟨by omega, h2, h3⟩
  · rw [if_neg hx, parts_snoc] at h
    simp only [Bool.and_eq_true, decide_eq_true_eq, List.length_append, List.length_singleton] at h
    obtain ⟨h1, h2, h3⟩ := h
    rw [parts_snoc]
    simp only [Bool.and_eq_true, decide_eq_true_eq, List.length_append, List.length_singleton]
    exact ⟨h1, h2, (oct_front h3).1⟩
theorem beg_fronts : ∀ (m l : List Int), begB (l ++ m) = true → begB l = true
  | [], l, h => by simpa using h
  | x :: m, l, h => by
    have e : l ++ x :: m = (l ++ [x]) ++ m := by simp
    rw [e] at h
    exact beg_front (beg_fronts m _ h)
theorem begN_full (l : List Int) (h : begB l = true) : ∀ f n, n + f = l.length → begN l f n = l.length
  | 0, n, e => by rw [begN]; omega
  | f + 1, n, e => by
    rw [begN, if_pos (beg_fronts (l.drop (n + 1)) _ (by rw [List.take_append_drop]; exact h))]
    exact begN_full l h f (n + 1) (by omega)
theorem beg_digit {l : List Int} {x : Int} (hx : x ≠ 46) (h : begB (l ++ [x]) = true) : 48 ≤ x ∧ x ≤ 57 := by
  obtain ⟨P, q, e⟩ := split_some 46 l []
  have hs := split_snoc 46 x l [] P q e
  unfold begB at h
  rw [hs, if_neg hx, parts_snoc] at h
  simp only [Bool.and_eq_true] at h
  exact (oct_front h.2.2).2
theorem split_none : ∀ (l cur : List Int), (46 : Int) ∉ l → splitA 46 cur l = [cur ++ l]
  | [], cur, _ => by simp [splitA]
  | x :: l, cur, h => by
    rw [splitA, if_neg (by intro e; exact h (by simp [e])), split_none l _ (fun k => h (by simp [k]))]
    simp
theorem beg_short {l : List Int} (h46 : (46 : Int) ∉ l) (h : begB l = true) : l.length ≤ 3 := by
  unfold begB at h
  rw [split_none l [] h46] at h
  simp only [List.nil_append, partsOk, Bool.and_eq_true] at h
  exact oct_len h.2
theorem worth_rangeF (c : Int) : worthV c = -1 ∨ (0 ≤ worthV c ∧ worthV c < 16) := by
  unfold worthV
  split
  · omega
  · split
    · omega
    · split <;> omega
theorem hexv_worth (c : Int) : hexv c = if 0 ≤ worthV c then some (worthV c) else none := by
  unfold hexv worthV
  by_cases h1 : 48 ≤ c ∧ c ≤ 57
  · rw [if_pos h1, if_pos h1, if_pos (by omega)]
  · rw [if_neg h1, if_neg h1]
    by_cases h2 : 97 ≤ c ∧ c ≤ 102
    · rw [if_pos h2, if_pos h2, if_pos (by omega)]
    · rw [if_neg h2, if_neg h2]
      by_cases h3 : 65 ≤ c ∧ c ≤ 70
      · rw [if_pos h3, if_pos h3, if_pos (by omega)]
      · rw [if_neg h3, if_neg h3, if_neg (by omega)]
theorem valF_snocF (l : List Int) (x : Int) : valF (l ++ [x]) = valF l * 16 + worthV x := by simp [valF, List.foldl_append]
theorem foldl_range : ∀ (l : List Int) (n : Int), 0 ≤ n → l.all (fun c => decide (0 ≤ worthV c)) = true → 0 ≤ l.foldl (fun n c => n * 16 + worthV c) n ∧ l.foldl (fun n c => n * 16 + worthV c) n < (n + 1) * 16 ^ l.length
  | [], n, hn, _ => by simp; omega
  | x :: l, n, hn, h => by
    simp only [List.all_cons, Bool.and_eq_true, decide_eq_true_eq] at h
    have hw := worth_rangeF x
    obtain ⟨h1, h2⟩ := foldl_range l (n * 16 + worthV x) (by omega) h.2
    rw [List.foldl_cons]
    refine ⟨h1, Int.lt_of_lt_of_le h2 ?_⟩
    rw [List.length_cons, Int.pow_succ, Int.mul_comm (16 ^ l.length) 16, ← Int.mul_assoc]
    exact Int.mul_le_mul_of_nonneg_right (by omega) (Int.pow_nonneg (by decide))
theorem valF_rangeF {l : List Int} (h : l.all (fun c => decide (0 ≤ worthV c)) = true) : 0 ≤ valF l ∧ valF l < 16 ^ l.length := by
  have := foldl_range l 0 (by omega) h
  simpa [valF] using this
theorem grpB_iff (l : List Int) : grpB l = true ↔ l.all (fun c => decide (0 ≤ worthV c)) = true ∧ 1 ≤ l.length ∧ l.length ≤ 4 := by
  simp [grpB]
theorem grpB_snoc {l : List Int} {c : Int} (h : l = [] ∨ grpB l = true) : grpB (l ++ [c]) = true ↔ 0 ≤ worthV c ∧ l.length ≤ 3 := by
  rw [grpB_iff]
  simp only [List.all_append, List.all_cons, List.all_nil, Bool.and_true, Bool.and_eq_true, decide_eq_true_eq, List.length_append, List.length_singleton]
  have ha : l.all (fun c => decide (0 ≤ worthV c)) = true := by
    rcases h with rfl | h
    · rfl
    · exact ((grpB_iff l).1 h).1
  constructor
  · rintro ⟨⟨_, h1⟩, _, h2⟩; exact ⟨h1, by omega⟩
  · rintro ⟨h1, h2⟩; exact ⟨⟨ha, h1⟩, by omega, by omega⟩
theorem no_dot {l : List Int} (h : l = [] ∨ grpB l = true) : (46 : Int) ∉ l := by
  rcases h with rfl | h
  · simp
  · intro k
    have := (List.all_eq_true.1 ((grpB_iff l).1 h).1) 46 k
    simp [worthV] at this

/-- What was read, as long as no dot stands there. -/
structure S6 (pre : List Int) (g : Grp) (x : SixS) : Prop where
  dots : g.dots = false
  ended : g.ended = flat2 x.L
  part : g.part.map toI = x.part
  value : g.value = valF x.part
  gapped : g.gapped = decide (0 ≤ x.gap)
  gap : 0 ≤ x.gap → g.gap = 2 * x.gap ∧ x.gap ≤ x.L.length
  okp : x.part = [] ∨ grpB x.part = true
  room : (x.L.length : Int) ≤ 7
  roomp : x.part ≠ [] → (x.L.length : Int) + 1 ≤ x.room
  tail : g.tail = Dot.new
  start : pre = [] → x.part = [] ∧ x.L = [] ∧ x.gap < 0
  lone : g.lone = decide (pre = [58])
  last : x.part = [] → pre = [] ∨ pre.getLast? = some 58
  colons0 : x.part = [] → (g.colons = 0 ↔ pre = [])
  colons2 : x.part = [] → 0 ≤ x.gap → (g.colons = 2 ↔ x.gap = x.L.length)
  colonsp : x.part ≠ [] → g.colons = 0

/-- What was read, with a dot. -/
structure D6 (pre : List Int) (g : Grp) (x : SixS) : Prop where
  dots : g.dots = true
  ended : g.ended = flat2 x.L
  gapped : g.gapped = decide (0 ≤ x.gap)
  gap : 0 ≤ x.gap → g.gap = 2 * x.gap ∧ x.gap ≤ x.L.length
  rel : ∃ P q, Rel g.tail x.part P q
  ok : g.tail.Ok
  nog : ∀ m, grpB (x.part ++ m) = false
  ne : x.part ≠ []
  room : (x.L.length : Int) + 2 ≤ x.room
  place : 0 ≤ x.gap ∨ x.L.length = 6
  len : 2 ≤ pre.length

def I6 (pre : List Int) (g : Grp) (x : SixS) : Prop := S6 pre g x ∨ D6 pre g x

theorem S6.new : S6 [] Grp.new ⟨[], -1, []⟩ :=
  ⟨rfl, rfl, rfl, rfl, rfl, fun h => absurd h (by decide), .inl rfl, by simp, fun h => absurd rfl h, rfl, fun _ => ⟨rfl, rfl, by decide⟩, rfl, fun _ => .inl rfl, fun _ => ⟨fun _ => rfl, fun _ => rfl⟩, fun _ h => absurd h (by decide), fun h => absurd rfl h⟩

theorem takes_both : ∀ (l : List UInt8) (pre : List Int) (d : Dot) (P : List (List Int)) (q : List Int), Rel d pre P q → d.Ok →
    (∃ d', d.takes l = some d' ∧ d'.Ok ∧ ∃ P' q', Rel d' (pre ++ l.map toI) P' q') ∨ (d.takes l = none ∧ ∀ m, begB (pre ++ l.map toI ++ m) = false)
  | [], pre, d, P, q, h, ok => .inl ⟨d, rfl, ok, P, q, by simpa using h⟩
  | c :: l, pre, d, P, q, h, ok => by
    rcases h.take (toI c) with ⟨d', h1, h2, P', q', h3⟩ | ⟨h1, h2⟩
    · have e : d.takes (c :: l) = d'.takes l := by
        show (d.take (toI c)).bind _ = _
        rw [h1]; rfl
      have ih := takes_both l (pre ++ [toI c]) d' P' q' h3 (Dot.take_ok h1 ok)
      rw [e]
      simpa using ih
    · refine .inr ⟨by show (d.take (toI c)).bind _ = _; rw [h1]; rfl, fun m => ?_⟩
      cases hb : begB (pre ++ (c :: l).map toI ++ m) with
      | false => rfl
      | true =>
        have e : pre ++ (c :: l).map toI ++ m = (pre ++ [toI c]) ++ (l.map toI ++ m) := by simp
        rw [e] at hb
        rw [beg_fronts _ _ hb] at h2
        cases h2

theorem at_last (pre : List Int) (c : Int) (rest : List Int) (h : pre ≠ []) : (pre ++ c :: rest)[pre.length - 1]? = pre.getLast? := by
  have : 0 < pre.length := List.length_pos_iff.2 h
  rw [List.getElem?_append_left (by omega), List.getLast?_eq_getElem?]
theorem at_one {pre : List Int} {c : Int} {rest : List Int} : (pre.length = 1 ∧ (pre ++ c :: rest)[0]? = some 58) ↔ pre = [58] := by
  constructor
  · rintro ⟨h1, h2⟩
    match pre, h1 with
    | [a], _ => simpa using h2
  · rintro rfl; exact ⟨rfl, rfl⟩
theorem room_of {pre : List Int} {g : Grp} {x : SixS} (he : g.ended = flat2 x.L) (hg : g.gapped = decide (0 ≤ x.gap)) : g.room = 2 * (x.room - x.L.length) := by
  have hl : g.ended.length = 2 * x.L.length := by rw [he, flat2_len]
  unfold Grp.room SixS.room
  rw [hg]
  by_cases h : 0 ≤ x.gap
  · simp only [h, decide_true, if_true, hl]; omega
  · simp only [h, decide_false, if_false, Bool.false_eq_true, hl]; omega
theorem snoc_ne (pre : List Int) (c : Int) : pre ++ [c] ≠ [] := by simp
theorem snoc_58 {pre : List Int} (c : Int) (h : pre ≠ []) : pre ++ [c] ≠ [58] := by
  cases pre with
  | nil => exact absurd rfl h
  | cons a r => simp
theorem num58 (n : Num) (m : Int) : n.take 58 m = none := by
  unfold Num.take; rw [if_pos (by omega)]

theorem step_colon {pre : List Int} {g : Grp} {x : SixS} (h : S6 pre g x) (rest : List Int) :
    (∃ g' x', g.take 58 = some g' ∧ x.step (pre ++ 58 :: rest) pre.length 58 = some x' ∧ I6 (pre ++ [58]) g' x') ∨ (g.take 58 = none ∧ x.step (pre ++ 58 :: rest) pre.length 58 = none) := by
  have hd := h.dots
  have et : g.take 58 = if g.part = [] then g.second else g.colon := by
    unfold Grp.take
    rw [hd]
    rfl
  rw [et]
  by_cases hp : x.part = []
  · have hgp : g.part = [] := by have := h.part; rw [hp] at this; simpa using this
    rw [if_pos hgp]
    unfold SixS.step
    rw [if_pos ⟨rfl, hp⟩]
    by_cases hpre : pre = []
    · obtain ⟨s1, s2, s3⟩ := h.start hpre
      have hc0 := (h.colons0 hp).2 hpre
      have hgg : g.gapped = false := by rw [h.gapped]; simp; omega
      rw [if_pos (by rw [hpre]; rfl)]
      refine .inl ⟨{ g with colons := 1 }, x, by unfold Grp.second; rw [hgg, if_neg (by simp), if_pos hc0], rfl, .inl ?_⟩
      refine ⟨hd, h.ended, h.part, h.value, h.gapped, h.gap, h.okp, h.room, h.roomp, h.tail, fun k => absurd k (snoc_ne _ _), ?_, fun _ => .inr (by simp), fun _ => ⟨fun k => by simp at k, fun k => absurd k (snoc_ne _ _)⟩, fun _ k => absurd k (by omega), fun k => absurd hp k⟩
      unfold Grp.lone
      rw [show ({ g with colons := 1 } : Grp).ended = g.ended from rfl, show ({ g with colons := 1 } : Grp).gapped = g.gapped from rfl, h.ended, s2, hgg, hpre]
      rfl
    · have hc0 : ¬ g.colons = 0 := fun k => hpre ((h.colons0 hp).1 k)
      have hlast : (pre ++ 58 :: rest)[pre.length - 1]? = some 58 := by
        rw [at_last _ _ _ hpre]
        rcases h.last hp with k | k
        · exact absurd k hpre
        · exact k
      have hl0 : ¬ pre.length = 0 := fun k => hpre (List.length_eq_zero_iff.1 k)
      rw [if_neg hl0]
      by_cases hg : 0 ≤ x.gap
      · refine .inr ⟨?_, if_neg (by omega)⟩
        unfold Grp.second
        rw [h.gapped]
        simp [hg]
      · have hgg : g.gapped = false := by rw [h.gapped]; simp; omega
        rw [if_pos ⟨hlast, by omega, by have := h.room; omega⟩]
        refine .inl ⟨{ g with colons := 2, gapped := true, gap := g.ended.length }, _, by unfold Grp.second; rw [hgg, if_neg (by simp), if_neg hc0], rfl, .inl ?_⟩
        refine ⟨hd, h.ended, h.part, h.value, ?_, ?_, h.okp, h.room, fun k => absurd hp k, h.tail, fun k => absurd k (snoc_ne _ _), ?_, fun _ => .inr (by simp), fun _ => ⟨fun k => by simp at k, fun k => absurd k (snoc_ne _ _)⟩, fun _ _ => ⟨fun _ => rfl, fun _ => rfl⟩, fun k => absurd hp k⟩
        · show true = decide (0 ≤ (x.L.length : Int)); simp
        · intro _
          refine ⟨?_, Int.le_refl _⟩
          show ((g.ended.length : Nat) : Int) = 2 * ((x.L.length : Nat) : Int)
          rw [h.ended, flat2_len]; omega
        · have : (decide (pre ++ [58] = [58]) : Bool) = false := decide_eq_false (snoc_58 _ hpre)
          rw [this]
          unfold Grp.lone
          simp
  · have hgp : ¬ g.part = [] := fun k => hp (by rw [← h.part, k]; rfl)
    rw [if_neg hgp]
    unfold SixS.step
    rw [if_neg (fun k => hp k.2), if_pos rfl]
    have hgr : grpB x.part = true := h.okp.resolve_left hp
    have hroom := room_of (pre := pre) h.ended h.gapped
    unfold Grp.colon
    by_cases hr : x.room ≤ (x.L.length : Int) + 1
    · exact .inr ⟨if_pos (by omega), if_pos (.inr hr)⟩
    · rw [if_neg (by omega : ¬ g.room ≤ 2), if_neg (fun k => k.elim (fun k => by rw [hgr] at k; cases k) hr)]
      refine .inl ⟨_, _, rfl, rfl, .inl ?_⟩
      have hx8 : x.room ≤ 8 := by unfold SixS.room; split <;> omega
      refine ⟨hd, ?_, rfl, rfl, h.gapped, ?_, .inl rfl, ?_, fun k => absurd rfl k, h.tail, fun k => absurd k (snoc_ne _ _), ?_, fun _ => .inr (by simp), fun _ => ⟨fun k => by simp at k, fun k => absurd k (snoc_ne _ _)⟩, ?_, fun k => absurd rfl k⟩
      · show g.ended ++ _ = flat2 (x.L ++ [valF x.part])
        rw [flat2_app, h.ended, h.value]
        rfl
      · intro k
        obtain ⟨k1, k2⟩ := h.gap k
        refine ⟨k1, ?_⟩
        show x.gap ≤ ((x.L ++ [valF x.part]).length : Nat)
        rw [List.length_append]; simp; omega
      · show (((x.L ++ [valF x.part]).length : Nat) : Int) ≤ 7
        rw [List.length_append]; simp; omega
      · have hpre : pre ≠ [] := fun k => hp (h.start k).1
        rw [decide_eq_false (snoc_58 _ hpre)]
        unfold Grp.lone
        simp
      · intro _ k
        obtain ⟨k1, k2⟩ := h.gap k
        refine ⟨fun q => by simp at q, fun q => ?_⟩
        have : x.gap = (((x.L ++ [valF x.part]).length : Nat) : Int) := q
        rw [List.length_append] at this; simp at this; omega

theorem step_dot {pre : List Int} {g : Grp} {x : SixS} (h : S6 pre g x) (rest : List Int) :
    (∃ g' x', g.take 46 = some g' ∧ x.step (pre ++ 46 :: rest) pre.length 46 = some x' ∧ I6 (pre ++ [46]) g' x') ∨ (g.take 46 = none ∧ x.step (pre ++ 46 :: rest) pre.length 46 = none) := by
  have hd := h.dots
  have et : g.take 46 = g.dot := by
    unfold Grp.take
    rw [hd]
    rfl
  rw [et]
  have hroom := room_of (pre := pre) h.ended h.gapped
  have hx8 : x.room = if 0 ≤ x.gap then 7 else 8 := rfl
  have hng : ∀ m, grpB (x.part ++ [46] ++ m) = false := fun m => by
    cases hb : grpB (x.part ++ [46] ++ m) with
    | false => rfl
    | true =>
      have := (List.all_eq_true.1 ((grpB_iff _).1 hb).1) 46 (by simp)
      simp [worthV] at this
  have hng0 : grpB (x.part ++ [46]) = false := by simpa using hng []
  have estep : x.step (pre ++ 46 :: rest) pre.length 46 = if pre = [58] then none else if begB (x.part ++ [46]) = true ∧ (x.L.length : Int) + 2 ≤ x.room ∧ (0 ≤ x.gap ∨ x.L.length = 6) then some { x with part := x.part ++ [46] } else none := by
    unfold SixS.step
    rw [if_neg (by simp), if_neg (by decide)]
    by_cases h1 : pre = [58]
    · rw [if_pos h1, if_pos (at_one.2 h1)]
    · rw [if_neg h1, if_neg (fun k => h1 (at_one.1 k))]
      rw [hng0]
      simp
  rw [estep]
  unfold Grp.dot
  have htk := takes_both g.part [] Dot.new [] [] Rel.new Dot.ok_new
  rw [List.nil_append, h.part] at htk
  rw [h.tail]
  by_cases h1 : pre = [58]
  · rw [if_pos h1]
    have hpart : x.part = [] := by
      apply Classical.byContradiction
      intro k
      have hl := h.lone
      rw [h1] at hl
      unfold Grp.lone at hl
      rw [h.colonsp k] at hl
      simp at hl
    have hgp : g.part = [] := by have := h.part; rw [hpart] at this; simpa using this
    rw [hgp]
    refine .inr ⟨?_, rfl⟩
    split
    · rfl
    · rfl
  · rw [if_neg h1]
    by_cases hc : (x.L.length : Int) + 2 ≤ x.room ∧ (0 ≤ x.gap ∨ x.L.length = 6)
    · have e0 : ¬ (g.room < 4 ∨ (g.gapped = false ∧ 4 < g.room)) := by
        rw [h.gapped, hroom]
        simp
        refine ⟨by omega, fun k => ?_⟩
        have : ¬ 0 ≤ x.gap := by omega
        rw [if_neg this] at hx8
        omega
      rw [if_neg e0]
      rcases htk with ⟨d, t1, t2, P', q', t3⟩ | ⟨t1, t2⟩
      · rw [t1]
        rcases t3.take 46 with ⟨d', u1, u2, P2, q2, u3⟩ | ⟨u1, u2⟩
        · rw [if_pos ⟨u2, hc⟩]
          refine .inl ⟨{ g with dots := true, tail := d' }, _, by simp [u1], rfl, .inr ?_⟩
          refine ⟨rfl, h.ended, h.gapped, h.gap, ⟨P2, q2, u3⟩, Dot.take_ok u1 t2, hng, snoc_ne _ _, hc.1, hc.2, ?_⟩
          have hpre : pre ≠ [] := by
            intro k
            have e := (h.start k).1
            rw [e] at u2
            revert u2
            decide
          have := List.length_pos_iff.2 hpre
          rw [List.length_append, List.length_singleton]; omega
        · rw [if_neg (fun k => by rw [u2] at k; exact absurd k.1 (by decide))]
          exact .inr ⟨by simp [u1], rfl⟩
      · rw [if_neg (fun k => by rw [t2 [46]] at k; exact absurd k.1 (by decide)), t1]
        exact .inr ⟨rfl, rfl⟩
    · refine .inr ⟨if_pos ?_, if_neg (fun k => hc k.2)⟩
      rw [h.gapped, hroom]
      simp
      by_cases hg : 0 ≤ x.gap
      · rw [if_pos hg] at hx8
        left
        have : ¬ ((x.L.length : Int) + 2 ≤ x.room) := fun k => hc ⟨k, .inl hg⟩
        omega
      · rw [if_neg hg] at hx8
        by_cases h6 : (x.L.length : Int) + 2 ≤ x.room
        · right
          have : ¬ x.L.length = 6 := fun k => hc ⟨h6, .inr k⟩
          omega
        · left; omega

theorem u8_backF (c : UInt8) : UInt8.ofNat (toI c).toNat = c := by
  unfold toI
  rw [Int.toNat_natCast]
  exact UInt8.ofNat_toNat
theorem step_other {pre : List Int} {g : Grp} {x : SixS} (h : S6 pre g x) (rest : List Int) (c : UInt8) (h58 : toI c ≠ 58) (h46 : toI c ≠ 46) :
    (∃ g' x', g.take (toI c) = some g' ∧ x.step (pre ++ toI c :: rest) pre.length (toI c) = some x' ∧ I6 (pre ++ [toI c]) g' x') ∨ (g.take (toI c) = none ∧ x.step (pre ++ toI c :: rest) pre.length (toI c) = none) := by
  have hd := h.dots
  have et : g.take (toI c) = g.digit (toI c) := by
    unfold Grp.take
    rw [hd, if_neg (by decide), if_neg h58, if_neg h46]
  rw [et]
  have hroom := room_of (pre := pre) h.ended h.gapped
  have hx8 : x.room = if 0 ≤ x.gap then 7 else 8 := rfl
  have hrm := h.room
  have hpl : x.part.length = g.part.length := by rw [← h.part, List.length_map]
  have hgs := grpB_snoc (c := toI c) h.okp
  have hbg : begB (x.part ++ [toI c]) = true → 48 ≤ toI c ∧ toI c ≤ 57 ∧ x.part.length ≤ 2 := fun k => by
    have k1 := beg_digit h46 k
    have k2 := beg_short (by
      intro m
      rcases List.mem_append.1 m with m | m
      · exact no_dot h.okp m
      · simp at m; exact h46 m.symm) k
    rw [List.length_append, List.length_singleton] at k2
    exact ⟨k1.1, k1.2, by omega⟩
  have estep : x.step (pre ++ toI c :: rest) pre.length (toI c) = if pre = [58] then none else if 0 ≤ worthV (toI c) ∧ x.part.length ≤ 3 ∧ (x.L.length : Int) + 1 ≤ x.room then some { x with part := x.part ++ [toI c] } else none := by
    unfold SixS.step
    rw [if_neg (fun k => h58 k.1), if_neg h58]
    by_cases h1 : pre = [58]
    · rw [if_pos h1, if_pos (at_one.2 h1)]
    · rw [if_neg h1, if_neg (fun k => h1 (at_one.1 k))]
      by_cases hk : 0 ≤ worthV (toI c) ∧ x.part.length ≤ 3 ∧ (x.L.length : Int) + 1 ≤ x.room
      · rw [if_pos hk, if_pos]
        rw [hgs.2 ⟨hk.1, hk.2.1⟩]
        simp [hk.2.2]
      · rw [if_neg hk, if_neg]
        intro k
        simp only [Bool.or_eq_true, Bool.and_eq_true, decide_eq_true_eq] at k
        rcases k with ⟨k1, k2⟩ | ⟨k1, k2, k3⟩
        · exact hk ⟨(hgs.1 k1).1, (hgs.1 k1).2, k2⟩
        · obtain ⟨b1, b2, b3⟩ := hbg k1
          exact hk ⟨by unfold worthV; rw [if_pos ⟨b1, b2⟩]; omega, by omega, by omega⟩
  rw [estep]
  unfold Grp.digit
  rw [hexv_worth]
  have hw := worth_rangeF (toI c)
  by_cases hv : 0 ≤ worthV (toI c)
  · rw [if_pos hv]
    simp only
    by_cases h1 : pre = [58]
    · rw [if_pos h1]
      exact .inr ⟨if_pos (.inl (by rw [h.lone, h1]; rfl)), rfl⟩
    · rw [if_neg h1]
      by_cases hk : 0 ≤ worthV (toI c) ∧ x.part.length ≤ 3 ∧ (x.L.length : Int) + 1 ≤ x.room
      · obtain ⟨k1, k2, k3⟩ := hk
        refine .inl ⟨_, _, if_neg ?_, if_pos ⟨k1, k2, k3⟩, .inl ?_⟩
        rotate_left
        · have hval := valF_rangeF (l := x.part) (by
            rcases h.okp with k | k
            · rw [k]; rfl
            · exact ((grpB_iff _).1 k).1)
          have hp16 : (16 : Int) ^ x.part.length ≤ 4096 := by
            have : x.part.length = 0 ∨ x.part.length = 1 ∨ x.part.length = 2 ∨ x.part.length = 3 := by omega
            rcases this with e | e | e | e <;> rw [e] <;> decide
          refine ⟨hd, h.ended, ?_, ?_, h.gapped, h.gap, .inr (hgs.2 ⟨k1, k2⟩), h.room, fun _ => k3, h.tail, fun k => absurd k (snoc_ne _ _), ?_, fun k => absurd k (snoc_ne _ _), fun k => absurd k (snoc_ne _ _), fun k => absurd k (snoc_ne _ _), fun _ => rfl⟩
          · show (g.part ++ [UInt8.ofNat (toI c).toNat]).map toI = x.part ++ [toI c]
            rw [u8_backF, List.map_append, h.part]
            rfl
          · show g.value * 16 % 65536 + worthV (toI c) = valF (x.part ++ [toI c])
            rw [valF_snocF, h.value]
            omega
          · have : (decide (pre ++ [toI c] = [58]) : Bool) = false := decide_eq_false (by
              cases pre with
              | nil => intro k; simp at k; exact h58 k
              | cons a r => simp)
            rw [this]
            unfold Grp.lone
            simp
        · rintro (k | k | k)
          · rw [h.lone] at k
            exact h1 (of_decide_eq_true k)
          · rw [hroom] at k; omega
          · omega
      · rw [if_neg hk]
        refine .inr ⟨if_pos ?_, rfl⟩
        have hle4 : x.part.length ≤ 4 := by
          rcases h.okp with k | k
          · rw [k]; simp
          · exact ((grpB_iff _).1 k).2.2
        by_cases h3 : x.part.length ≤ 3
        · right; left
          have : ¬ ((x.L.length : Int) + 1 ≤ x.room) := fun k => hk ⟨hv, h3, k⟩
          rw [hroom]
          by_cases hg : 0 ≤ x.gap
          · rw [if_pos hg] at hx8; omega
          · rw [if_neg hg] at hx8; omega
        · right; right; omega
  · rw [if_neg hv]
    refine .inr ⟨rfl, ?_⟩
    split
    · rfl
    · exact if_neg (fun k => hv k.1)

theorem step_dots {pre : List Int} {g : Grp} {x : SixS} (h : D6 pre g x) (rest : List Int) (c : Int) :
    (∃ g' x', g.take c = some g' ∧ x.step (pre ++ c :: rest) pre.length c = some x' ∧ I6 (pre ++ [c]) g' x') ∨ (g.take c = none ∧ x.step (pre ++ c :: rest) pre.length c = none) := by
  have hng0 : grpB x.part = false := by simpa using h.nog []
  have hl := h.len
  have et : g.take c = (g.tail.take c).map (fun d => { g with tail := d }) := by
    unfold Grp.take
    rw [h.dots]
    rfl
  rw [et]
  obtain ⟨P, q, hr⟩ := h.rel
  have estep : x.step (pre ++ c :: rest) pre.length c = if c ≠ 58 ∧ begB (x.part ++ [c]) = true then some { x with part := x.part ++ [c] } else none := by
    unfold SixS.step
    rw [if_neg (fun k => h.ne k.2)]
    by_cases hc : c = 58
    · rw [if_pos hc, if_pos (.inl hng0), if_neg (fun k => k.1 hc)]
    · rw [if_neg hc, if_neg (fun k => by omega)]
      have e1 := h.nog [c]
      have e2 : (decide ((x.L.length : Int) + 2 ≤ x.room) : Bool) = true := decide_eq_true h.room
      have e3 : (decide (0 ≤ x.gap) || decide (x.L.length = 6)) = true := by simpa using h.place
      rw [e1, e2, e3]
      simp [hc]
  rw [estep]
  rcases hr.take c with ⟨d', u1, u2, P2, q2, u3⟩ | ⟨u1, u2⟩
  · by_cases hc : c = 58
    · subst hc
      unfold Dot.take at u1
      rw [if_pos (by decide), num58] at u1
      cases u1
    · rw [if_pos ⟨hc, u2⟩, u1]
      refine .inl ⟨_, _, rfl, rfl, .inr ⟨h.dots, h.ended, h.gapped, h.gap, ⟨P2, q2, u3⟩, Dot.take_ok u1 h.ok, fun m => ?_, snoc_ne _ _, h.room, h.place, by rw [List.length_append]; omega⟩⟩
      have := h.nog ([c] ++ m)
      simpa using this
  · rw [u1, u2]
    exact .inr ⟨rfl, if_neg (fun k => by simp at k)⟩

theorem step_both {pre : List Int} {g : Grp} {x : SixS} (h : I6 pre g x) (rest : List Int) (c : UInt8) :
    (∃ g' x', g.take (toI c) = some g' ∧ x.step (pre ++ toI c :: rest) pre.length (toI c) = some x' ∧ I6 (pre ++ [toI c]) g' x') ∨ (g.take (toI c) = none ∧ x.step (pre ++ toI c :: rest) pre.length (toI c) = none) := by
  rcases h with h | h
  · by_cases h1 : toI c = 58
    · rw [h1]; exact step_colon h rest
    · by_cases h2 : toI c = 46
      · rw [h2]; exact step_dot h rest
      · exact step_other h rest c h1 h2
  · exact step_dots h rest _

/-- What is read is whole to both or to neither, and the same. -/
theorem whole_both {pre : List Int} {g : Grp} {x : SixS} (h : I6 pre g x) :
    (g.whole = true ∧ ∃ G, whole6 x = some G ∧ flat2 G = g.addr ∧ G.length = 8) ∨ (g.whole = false ∧ whole6 x = none) := by
  -- what stands there, and its bytes
  have fin : ∀ l : List Int, givenG x = some l → g.given = flat2 l → g.gapped = decide (0 ≤ x.gap) → (0 ≤ x.gap → g.gap = 2 * x.gap ∧ x.gap ≤ l.length ∧ (l.length : Int) ≤ 7) → (x.gap < 0 → l.length = 8) → ∃ G, whole6 x = some G ∧ flat2 G = g.addr ∧ G.length = 8 := by
    intro l e1 e2 e3 e4 e5
    unfold whole6 Grp.addr
    rw [e1, e2, e3]
    simp only
    by_cases hg : 0 ≤ x.gap
    · obtain ⟨q1, q2, q3⟩ := e4 hg
      rw [if_neg (by omega), if_pos (by omega), if_pos (by simpa using hg)]
      refine ⟨_, rfl, ?_, by simp; omega⟩
      rw [flat2_app, flat2_app, flat2_zero, flat2_len, show g.gap.toNat = 2 * x.gap.toNat by omega, flat2_take, flat2_drop, show 2 * (8 - l.length) = 16 - 2 * l.length by omega]
    · rw [if_pos (by omega), if_pos (e5 (by omega)), if_neg (by simpa using hg)]
      exact ⟨_, rfl, rfl, e5 (by omega)⟩
  rcases h with h | h
  · have hroom := room_of (pre := pre) h.ended h.gapped
    have hx8 : x.room = if 0 ≤ x.gap then 7 else 8 := rfl
    have hrm := h.room
    by_cases hp : x.part = []
    · have hgp : g.part = [] := by have := h.part; rw [hp] at this; simpa using this
      have hg0 : grpB x.part = false := by rw [hp]; rfl
      by_cases hg : 0 ≤ x.gap ∧ x.gap = x.L.length
      · refine .inl ⟨?_, fin x.L ?_ ?_ h.gapped (fun k => ⟨(h.gap k).1, (h.gap k).2, hrm⟩) (fun k => by omega)⟩
        · unfold Grp.whole
          rw [h.dots, h.gapped]
          simp [hg.1, (h.colons2 hp hg.1).2 hg.2]
        · unfold givenG
          rw [hg0, if_neg (by simp), if_neg (fun k => k.1 hp), if_pos ⟨hp, hg⟩]
        · unfold Grp.given
          rw [h.dots, hgp]
          simp [h.ended]
      · refine .inr ⟨?_, ?_⟩
        · unfold Grp.whole
          rw [h.dots, h.gapped, hgp]
          by_cases hg0' : 0 ≤ x.gap
          · have : ¬ g.colons = 2 := fun k => hg ⟨hg0', (h.colons2 hp hg0').1 k⟩
            simp [hg0', this]
          · simp [hg0']
        · unfold whole6 givenG
          rw [hg0, if_neg (by simp), if_neg (fun k => k.1 hp), if_neg (fun k => hg k.2)]
    · have hgp : g.part ≠ [] := fun k => hp (by rw [← h.part, k]; rfl)
      have hgr : grpB x.part = true := h.okp.resolve_left hp
      have hrp := h.roomp hp
      have e1 : givenG x = some (x.L ++ [valF x.part]) := by
        unfold givenG
        rw [if_pos hgr]
      have e2 : g.given = flat2 (x.L ++ [valF x.part]) := by
        unfold Grp.given
        rw [h.dots, if_neg (by simp), if_pos hgp, h.ended, h.value, flat2_app]
        rfl
      have el : (x.L ++ [valF x.part]).length = x.L.length + 1 := by simp
      by_cases hg : 0 ≤ x.gap
      · refine .inl ⟨?_, fin _ e1 e2 h.gapped (fun k => ⟨(h.gap k).1, by have := (h.gap k).2; rw [el]; omega, by rw [el]; rw [if_pos hg] at hx8; omega⟩) (fun k => by omega)⟩
        unfold Grp.whole
        rw [h.dots, h.gapped]
        simp [hg, hgp]
      · rw [if_neg hg] at hx8
        by_cases h7 : x.L.length = 7
        · refine .inl ⟨?_, fin _ e1 e2 h.gapped (fun k => absurd k hg) (fun _ => by rw [el]; omega)⟩
          unfold Grp.whole
          rw [h.dots, h.gapped]
          have : g.room = 2 := by omega
          simp [hg, hgp, this]
        · refine .inr ⟨?_, ?_⟩
          · unfold Grp.whole
            rw [h.dots, h.gapped]
            have : ¬ g.room = 2 := by omega
            simp [hg, hgp, this]
          · unfold whole6
            rw [e1]
            simp only
            rw [if_pos (by omega), if_neg (by rw [el]; omega)]
  · have hx8 : x.room = if 0 ≤ x.gap then 7 else 8 := rfl
    have hng0 : grpB x.part = false := by simpa using h.nog []
    obtain ⟨P, q, hr⟩ := h.rel
    have hrm := h.room
    have hwh := hr.who
    by_cases hw : g.tail.whole = true
    · have hn := begN_full x.part hr.beg x.part.length 0 (by omega)
      have ha : (rparse4 x.part).1 = g.tail.addr := by
        unfold rparse4
        simp only
        rw [hn, if_neg (by rw [hwh, hw]; simp)]
        exact hr.addr hw
      have hok := h.ok
      have e1 : givenG x = some (x.L ++ [g.tail.e0 * 256 + g.tail.e1, g.tail.e2 * 256 + g.tail.num.value]) := by
        unfold givenG
        rw [hng0, if_neg (by simp), if_pos ⟨h.ne, by rw [hwh]; exact hw⟩, ha]
        rfl
      have hnum := hok.num
      have b0 := hok.e0
      have b1 := hok.e1
      have b2 := hok.e2
      unfold Num.Ok at hnum
      unfold Byte at b0 b1 b2
      have e2 : g.given = flat2 (x.L ++ [g.tail.e0 * 256 + g.tail.e1, g.tail.e2 * 256 + g.tail.num.value]) := by
        unfold Grp.given
        rw [h.dots, if_pos rfl, h.ended, flat2_app]
        unfold Dot.addr flat2
        simp
        omega
      have el : (x.L ++ [g.tail.e0 * 256 + g.tail.e1, g.tail.e2 * 256 + g.tail.num.value]).length = x.L.length + 2 := by simp
      refine .inl ⟨by unfold Grp.whole; rw [h.dots, if_pos rfl]; exact hw, fin _ e1 e2 h.gapped (fun k => ⟨(h.gap k).1, by have := (h.gap k).2; rw [el]; omega, by rw [el]; rw [if_pos k] at hx8; omega⟩) (fun k => ?_)⟩
      rw [el]
      have := h.place
      omega
    · refine .inr ⟨by unfold Grp.whole; rw [h.dots, if_pos rfl]; simpa using hw, ?_⟩
      unfold whole6 givenG
      rw [hng0, if_neg (by simp), if_neg (fun k => hw (by rw [← hwh]; exact k.2)), if_neg (fun k => h.ne k.1)]

theorem read6_both : ∀ (l : List UInt8) (pre : List Int) (g : Grp) (x : SixS), I6 pre g x → ∀ L, L = pre ++ l.map toI →
    match grpReader.read l pre.length g with
    | .bad n => ∃ y, read6 L l.length pre.length x = (y, n) ∧ (n < L.length ∨ whole6 y = none)
    | .good g' => ∃ y G, read6 L l.length pre.length x = (y, L.length) ∧ whole6 y = some G ∧ flat2 G = g'.addr ∧ G.length = 8
  | [], pre, g, x, h, L, hL => by
    simp at hL
    subst hL
    unfold Reader.read
    have e : grpReader.whole g = g.whole := rfl
    rw [e]
    rcases whole_both h with ⟨w1, G, w2, w3, w4⟩ | ⟨w1, w2⟩
    · rw [if_pos w1]
      exact ⟨x, G, rfl, w2, w3, w4⟩
    · rw [if_neg (by rw [w1]; simp)]
      exact ⟨x, rfl, .inr w2⟩
  | c :: l, pre, g, x, h, L, hL => by
    unfold Reader.read
    have e : grpReader.take g ((c.toNat : Nat) : Int) = g.take (toI c) := rfl
    rw [e]
    have hrd : read6 L (c :: l).length pre.length x = match x.step L pre.length (L.getD pre.length 0) with
      | none => (x, pre.length)
      | some y => read6 L l.length (pre.length + 1) y := rfl
    have hget : L.getD pre.length 0 = toI c := by
      rw [hL, List.getD_eq_getElem?_getD, List.getElem?_append_right (Nat.le_refl _)]
      simp
    rw [hrd, hget]
    rcases step_both h (l.map toI) c with ⟨g', x', h1, h2, h3⟩ | ⟨h1, h2⟩
    · have ih := read6_both l (pre ++ [toI c]) g' x' h3 L (by rw [hL]; simp)
      rw [h1]
      have h2' : x.step L pre.length (toI c) = some x' := by rw [hL]; exact h2
      rw [h2']
      rw [List.length_append, List.length_singleton] at ih
      exact ih
    · rw [h1]
      have h2' : x.step L pre.length (toI c) = none := by rw [hL]; exact h2
      rw [h2']
      exact ⟨x, rfl, .inl (by rw [hL]; simp)⟩

/-- Both readers of IPv6 addresses are one. -/
theorem parse6_both (l : List UInt8) : rparse6 (l.map toI) = ((parse6 l).1, ((parse6 l).2.1 : Int), (parse6 l).2.2) := by
  have h := read6_both l [] Grp.new ⟨[], -1, []⟩ (.inl S6.new) _ rfl
  unfold parse6 rparse6
  simp only [List.length_nil, List.nil_append, List.length_map] at h ⊢
  cases hr : grpReader.read l 0 Grp.new with
  | bad n =>
    rw [hr] at h
    obtain ⟨y, h1, h2⟩ := h
    rw [h1]
    simp only
    by_cases hn : n < l.length
    · rw [if_pos hn]
    · rw [if_neg hn, h2.resolve_left hn]
  | good g =>
    rw [hr] at h
    obtain ⟨y, G, h1, h2, h3, _⟩ := h
    rw [h1]
    simp only
    rw [if_neg (by omega), h2, ← h3]
    rfl
end Go.Proofs.YtlpbffcijhgelaaDoor

namespace Go.Proofs.YtlpbffcijhgelaaDoor
set_option linter.unusedVariables false
set_option linter.unusedSimpArgs false
open Go Go.RowKit

structure SixS.Fin (x : SixS) : Prop where
  few : x.L.length ≤ 7
  gap : -1 ≤ x.gap ∧ x.gap ≤ x.L.length
  short : x.part.length ≤ 15
  nums : ∀ z ∈ x.L, 0 ≤ z ∧ z < 65536
  fit : x.part ≠ [] → (grpB x.part = true ∧ (x.L.length : Int) + 1 ≤ x.room) ∨ (begB x.part = true ∧ (x.L.length : Int) + 2 ≤ x.room)
theorem SixS.Fin.new : SixS.Fin ⟨[], -1, []⟩ := ⟨by simp, by decide, by simp, by simp, fun h => absurd rfl h⟩
theorem step_fin {l : List Int} {k : Nat} {c : Int} {x y : SixS} (h : x.step l k c = some y) (hx : x.Fin) : y.Fin := by
  obtain ⟨h1, h2, h3, h4, h5⟩ := hx
  unfold SixS.step at h
  split at h
  · rename_i hc
    split at h
    · cases h; exact ⟨h1, h2, h3, h4, h5⟩
    · split at h
      · cases h; exact ⟨h1, ⟨by show (-1 : Int) ≤ (x.L.length : Int); omega, Int.le_refl _⟩, h3, h4, fun k => absurd hc.2 k⟩
      · cases h
  · split at h
    · split at h
      · cases h
      · rename_i hh
        cases h
        have hr : x.room ≤ 8 := by unfold SixS.room; split <;> omega
        have hg : grpB x.part = true := by
          cases hgb : grpB x.part with
          | true => rfl
          | false => exact absurd (.inl hgb) hh
        have hlt : ¬ (x.room ≤ x.L.length + 1) := fun e => hh (.inr e)
        refine ⟨by simp; omega, ⟨h2.1, by simp; omega⟩, by simp, fun z hz => ?_, fun k => absurd rfl k⟩
        rcases List.mem_append.1 hz with hz | hz
        · exact h4 z hz
        · simp at hz; subst hz; exact grp_val hg
    · split at h
      · cases h
      · split at h
        · rename_i hh
          cases h
          simp only [Bool.or_eq_true, Bool.and_eq_true, decide_eq_true_eq] at hh
          refine ⟨h1, h2, ?_, h4, fun _ => ?_⟩
          · show (x.part ++ [c]).length ≤ 15
            rcases hh with ⟨hh, _⟩ | ⟨hh, _⟩
            · unfold grpB at hh
              simp only [Bool.and_eq_true, decide_eq_true_eq] at hh
              omega
            · exact beg_len hh
          · rcases hh with ⟨k1, k2⟩ | ⟨k1, k2, _⟩
            · exact .inl ⟨k1, k2⟩
            · exact .inr ⟨k1, k2⟩
        · cases h
theorem read6_fin (l : List Int) : ∀ (f i : Nat) (x : SixS), x.Fin → (read6 l f i x).1.Fin
  | 0, i, x, h => h
  | f + 1, i, x, h => by
    rw [read6]
    cases hs : x.step l i (l.getD i 0) with
    | none => exact h
    | some y => exact read6_fin l f (i + 1) y (step_fin hs h)
theorem read6_le (l : List Int) : ∀ (f i : Nat) (x : SixS), (read6 l f i x).2 ≤ i + f
  | 0, i, x => Nat.le_refl _
  | f + 1, i, x => by
    rw [read6]
    cases hs : x.step l i (l.getD i 0) with
    | none => exact Nat.le_add_right _ _
    | some y => have := read6_le l f (i + 1) y; simp only; omega
theorem parts_who (l : List Int) (h : whoB l = true) : ∃ a b c d : List Int, splitA 46 [] l = [a, b, c, d] ∧ octB a 255 = true ∧ octB b 255 = true ∧ octB c 255 = true ∧ octB d 255 = true := by
  unfold whoB begB at h
  simp only [Bool.and_eq_true, decide_eq_true_eq] at h
  obtain ⟨⟨h1, h2⟩, h3, h4⟩ := h
  generalize splitA 46 [] l = P at *
  match P, h3 with
  | [a, b, c, d], _ =>
    simp only [partsOk, Bool.and_eq_true] at h2
    exact ⟨a, b, c, d, rfl, h2.1.1, h2.2.1.1, h2.2.2.1.1, h2.2.2.2⟩
theorem oct_val {q : List Int} (h : octB q 255 = true) : 0 ≤ numF 0 q ∧ numF 0 q ≤ 255 := by
  cases q with
  | nil => exact ⟨by decide, by decide⟩
  | cons a r =>
    unfold octB at h
    simp only [List.isEmpty_cons, Bool.false_or, Bool.and_eq_true, decide_eq_true_eq] at h
    exact ⟨(numF_range _ 0 (by omega) h.2.1).1, h.2.2⟩
theorem takes_parts (l : List Int) (h : whoB l = true) : ∃ a b c d : Int, (splitA 46 [] l).map (numF 0) = [a, b, c, d] ∧ (0 ≤ a ∧ a ≤ 255) ∧ (0 ≤ b ∧ b ≤ 255) ∧ (0 ≤ c ∧ c ≤ 255) ∧ (0 ≤ d ∧ d ≤ 255) := by
  obtain ⟨a, b, c, d, e, ha, hb, hc, hd⟩ := parts_who l h
  exact ⟨_, _, _, _, by rw [e]; rfl, oct_val ha, oct_val hb, oct_val hc, oct_val hd⟩
/-- The groups that stand there: how many, and how great. -/
theorem given_fin {x : SixS} (h : x.Fin) {l : List Int} (e : givenG x = some l) : (l.length : Int) ≤ x.room ∧ x.gap ≤ l.length ∧ ∀ z ∈ l, 0 ≤ z ∧ z < 65536 := by
  obtain ⟨h1, h2, h3, h4, h5⟩ := h
  have hr : 7 ≤ x.room := by unfold SixS.room; split <;> omega
  unfold givenG at e
  by_cases hg : grpB x.part = true
  · rw [if_pos hg] at e
    cases e
    have hp : x.part ≠ [] := fun k => by rw [k] at hg; cases hg
    refine ⟨?_, by simp; omega, fun z hz => ?_⟩
    · rw [List.length_append]
      rcases h5 hp with k | k <;> simp <;> omega
    · rcases List.mem_append.1 hz with hz | hz
      · exact h4 z hz
      · simp at hz; subst hz; exact grp_val hg
  · rw [if_neg hg] at e
    by_cases hw : x.part ≠ [] ∧ whoB x.part = true
    · rw [if_pos hw] at e
      cases e
      have hbeg : begB x.part = true := by
        have := hw.2
        unfold whoB at this
        simp only [Bool.and_eq_true] at this
        exact this.1
      have hlen : (x.L.length : Int) + 2 ≤ x.room := by
        rcases h5 hw.1 with k | k
        · exact absurd k.1 hg
        · exact k.2
      have hn := begN_full x.part hbeg x.part.length 0 (by omega)
      have hp4 : ∃ a b c d : Int, (rparse4 x.part).1 = [a, b, c, d] ∧ (0 ≤ a ∧ a ≤ 255) ∧ (0 ≤ b ∧ b ≤ 255) ∧ (0 ≤ c ∧ c ≤ 255) ∧ (0 ≤ d ∧ d ≤ 255) := by
        have hbt := takes_parts x.part hw.2
        unfold rparse4
        simp only
        rw [hn, if_neg (by simp [hw.2])]
        exact hbt
      obtain ⟨a, b, c, d, e4, ha, hb, hc, hd⟩ := hp4
      rw [e4]
      refine ⟨by simp; omega, by simp; omega, fun z hz => ?_⟩
      rcases List.mem_append.1 hz with hz | hz
      · exact h4 z hz
      · simp at hz
        rcases hz with rfl | rfl <;> omega
    · rw [if_neg hw] at e
      split at e
      · cases e
        exact ⟨by omega, h2.2, h4⟩
      · cases e
theorem whole_fin {x : SixS} (h : x.Fin) {G : List Int} (e : whole6 x = some G) : G.length = 8 ∧ ∀ z ∈ G, 0 ≤ z ∧ z < 65536 := by
  unfold whole6 at e
  cases hg : givenG x with
  | none => rw [hg] at e; cases e
  | some l =>
    rw [hg] at e
    obtain ⟨k1, k2, k3⟩ := given_fin h hg
    simp only at e
    split at e
    · split at e
      · cases e; exact ⟨by assumption, k3⟩
      · cases e
    · split at e
      · cases e
        refine ⟨by simp; omega, fun z hz => ?_⟩
        rcases List.mem_append.1 hz with hz | hz
        · rcases List.mem_append.1 hz with hz | hz
          · exact k3 z (List.mem_of_mem_take hz)
          · rw [(List.mem_replicate.1 hz).2]; decide
        · exact k3 z (List.mem_of_mem_drop hz)
      · cases e
end Go.Proofs.YtlpbffcijhgelaaDoor

namespace Go.Proofs.YtlpbffcijhgelaaDoor
set_option linter.unusedVariables false
set_option linter.unusedSimpArgs false
open Go Go.RowKit

def Ans6 (o : Option (List Int)) (w : World) (e : Ending) (w' : World) : Prop :=
  match o with
  | some G => Whole6Post G true w e w'
  | none => ∃ u, e = .returned (.tuple #[u, .bool false]) ∧ Below w.heap.size w w'
theorem Ans6.no {o : Option (List Int)} (h : o = none) {w w' : World} {e : Ending} {u : Value} (he : e = .returned (.tuple #[u, .bool false])) (hb : Below w.heap.size w w') : Ans6 o w e w' := by
  subst h
  exact ⟨u, he, hb⟩
theorem Ans6.yes {o : Option (List Int)} {G : List Int} (h : o = some G) {w w' : World} {e : Ending} {u : Value} (he : e = .returned (.tuple #[u, .bool true])) (hr : w'.ownsRow w.heap.size 3 1 u G.length (intsL G)) (hb : Below w.heap.size w w') : Ans6 o w e w' := by
  subst h
  exact ⟨u, he, hr, hb⟩

/-- Two numbers more. -/
theorem own_num2 {w : World} {base : Nat} {v : Value} {xs : List Int} (h : w.ownsRow base 3 1 v xs.length (intsL xs)) (hb : base ≤ w.heap.size) (hn : xs.length ≤ 1000) (z y : Int) (ty : TypeId) :
    ∃ v' w1, (Builtin.append_ #[87, 87] ty #[v, .slice (some ⟨w.heap.size, 0, none⟩) 2 2]).run Tryd.prog (w.alloc (.cells #[.int .i64 z, .int .i64 y] 3)) = .ok v' w1 ∧ w1.ownsRow base 3 1 v' (xs ++ [z, y]).length (intsL (xs ++ [z, y])) ∧ w.grownBy w1 v.ownBlock := by
  obtain ⟨v', w1, hrun, hown', hgrow, _⟩ := own_lit elem_int h hb (by omega) (by decide) [.int .i64 z, .int .i64 y] 2 rfl (by decide) (fun u hu => by simp at hu; rcases hu with rfl | rfl <;> rfl) ty #[.int .i64 z, .int .i64 y] rfl
  have e : intsL xs ++ [.int .i64 z, .int .i64 y] = intsL (xs ++ [z, y]) := by simp [intsL]
  have e2 : xs.length + 2 = (xs ++ [z, y]).length := by simp
  rw [e, e2] at hown'
  exact ⟨v', w1, hrun, hown', hgrow⟩

set_option maxHeartbeats 8000000 in
set_option maxRecDepth 100000 in
theorem Whole6_any (s : ByteArray) (v : Value) (x : SixS) (p : ByteArray) (base : Nat) (w : World) (hown : w.ownsRow base 3 1 v x.L.length (intsL x.L)) (hp : txt p = x.part) (hx : x.Fin) :
    Calls Tryd.prog 58 #[.string s, .agg (sixL v x.gap p).toArray] w fun e w' => Ans6 (whole6 x) w e w' := by
  generalize hQ : (fun e w' => Ans6 (whole6 x) w e w') = Q
  have HQ : Hid _ := hQ
  clear hQ
  have HG6 : Hid _ := @given_fin x hx
  have HXF : Hid _ := hx
  obtain ⟨a, cap, rfl, hlen, hz⟩ := own_form hown
  have h7 := hx.few
  have hgap := hx.gap
  have hps : p.size ≤ 15 := by have := hx.short; rw [← hp, txt_length] at this; exact this
  have hbx := blk_new w (.cells (sixL (.slice a x.L.length cap) x.gap p).toArray 89)
  have hB0 := (Below.refl w.heap.size w).alloc (Nat.le_refl _) (.cells (sixL (.slice a x.L.length cap) x.gap p).toArray 89)
  have hz0 : (w.alloc (.cells (sixL (.slice a x.L.length cap) x.gap p).toArray 89)).heap.size = w.heap.size + 1 := by simp
  have hgr := fun W => group_ref p W (by omega)
  rw [hp] at hgr
  have HG : Hid _ := hgr
  have HGV : Hid (grpB x.part = true → ∀ W, Calls Tryd.prog 79 #[.string p] W fun e w' => e = .returned (.int .i64 (valF x.part)) ∧ w' = W) := fun hg W => by
    have := value_ref p W (by rw [hp]; exact hg)
    rw [hp] at this
    exact this
  have HWH : Hid _ := fun W => whole_ref p W (by omega)
  have HP4 : Hid _ := fun W => Parse4_wide p W (by omega)
  have HP : Hid _ := hp
  clear hgr
  go_enter Tryd.func58, Tryd.ntmps58
  generalize hW0 : w.alloc (.cells (sixL (.slice a x.L.length cap) x.gap p).toArray 89) = W0 at *
  have hbxA : ∀ y : Hi W0, y.W.heap[w.heap.size]? = _ := fun y => Hi.blk hbx y
  have hown1 := World.ownsRow_lit (base := W0.heap.size) (e := 3) (size := 1) W0 #[] 0 (Nat.le_refl _) (by decide) rfl
  have hcL : ∀ (y : Addr), a = some y → ∀ (j : Nat) u, (intsL x.L)[j]? = some u → (W0.alloc (.cells #[] 3)).cell? (y.add j) = some u := by
    intro y hy j u hj
    rcases hz with hz | ⟨g, hg, _, hgl, hc⟩
    · rw [List.length_eq_zero_iff.1 hz] at hj
      simp [intsL] at hj
    · rw [hy] at hg
      cases hg
      rw [Go.WideShapes.add_plain]
      have e1 := hc j u hj
      have hb1 : Below W0.heap.size W0 (W0.alloc (.cells #[] 3)) := (Below.refl _ W0).alloc (Nat.le_refl _) _
      rw [Nat.zero_add]
      exact (hb1.cell (p := ⟨g, j, none⟩) (Nat.lt_of_lt_of_le hgl hB0.size)).trans ((hB0.cell (p := ⟨g, j, none⟩) hgl).trans e1)
  obtain ⟨v2, W2, hrun, hown2, hgrow, _⟩ := own_append elem_int (c := cap) (m := x.L.length) hown1 a (intsL x.L) (by simp [intsL]) (fun h => by
      rcases hz with hz | ⟨g, hg, _⟩
      · exact hz
      · rw [h] at hg; cases hg) hcL (fun u hu => by obtain ⟨z, _, rfl⟩ := List.mem_map.1 hu; rfl) (by unfold maxLen; omega) (by omega) (by simp) 87
  simp only [Array.toList_empty, List.nil_append, Nat.zero_add] at hown2
  obtain ⟨a2, cap2, rfl, _, hz2⟩ := own_form hown2
  have hB2 : Below W0.heap.size W0 W2 := ((Below.refl _ W0).alloc (Nat.le_refl _) _).grown hgrow (by simp) (fun k hk => (hown1.lt k hk).1)
  have hbx2 : ∀ y : Hi W2, y.W.heap[w.heap.size]? = some (.cells (sixL (.slice a x.L.length cap) x.gap p).toArray 89) := fun y => Hi.blk ((hB2.block _ (by omega)).trans hbx) y
  have hc1 : ∀ y : Hi W2, y.W.cell? ⟨w.heap.size, 1, none⟩ = some (.int .i64 x.gap) := fun y => blk_cell (hbx2 y) rfl
  have hc2 : ∀ y : Hi W2, y.W.cell? ⟨w.heap.size, 2, none⟩ = some (.string p) := fun y => blk_cell (hbx2 y) rfl
  have hc0 : ∀ y : Hi W2, y.W.cell? ⟨w.heap.size, 0, none⟩ = some (.slice a x.L.length cap) := fun y => blk_cell (hbx2 y) rfl
  have H0 : Hid _ := hrun
  have d0 : (W0.alloc (.cells #[] 3)).cell? ⟨w.heap.size, 0, none⟩ = some (.slice a x.L.length cap) := blk_cell (blk_alloc hbx _) rfl
  have e2 := hc2 (Hi.refl W2)
  have e1 := hc1 (Hi.refl W2)
  have e0 := hc0 (Hi.refl W2)
  simp only [Hi.refl] at e0 e1 e2
  have hB3 : Below w.heap.size w W2 := hB0.trans (hB2.mono (by omega))
  have hsz2 : w.heap.size + 1 ≤ W2.heap.size := by have := hB2.size; omega
  have HOWN : Hid _ := row_base hown2 (show w.heap.size + 1 ≤ W0.heap.size by omega)
  have HZ0 : Hid _ := hz0
  have HC1 : Hid _ := hc1
  have HC0 : Hid _ := hc0
  have HC2 : Hid _ := hc2
  clear hrun hown1 hgrow hcL hbxA hz0 hown hz hbx hB0 hown2 hbx2 hc1 hc0 hc2 hB2 hlen
  go_wp2_with (at_builtin; refine wpList_append_run rfl _ _ _ _ rfl rfl rfl H0.out ?_; clear H0)
  refine (HG.out W2).mono ?_
  rintro e W3 ⟨rfl, rfl⟩
  clear HG
  cases hgb : grpB x.part with
  | true =>
    have HV : Hid _ := HGV.out hgb
    have HEG : Hid (givenG x = some (x.L ++ [valF x.part])) := by
      have : givenG x = some (x.L ++ [valF x.part]) := by unfold givenG; rw [if_pos hgb]
      exact this
    obtain ⟨v3, U, hrun3, hown3, hgrow3⟩ := own_num HOWN.out hsz2 (by omega) (valF x.part) 87
    have hBU : Below (w.heap.size + 1) W3 U := below_grown (Below.refl _ _) HOWN.out hgrow3 hsz2
    have eU : U.cell? ⟨w.heap.size, 1, none⟩ = some (.int .i64 x.gap) := (hBU.cell (p := ⟨w.heap.size, 1, none⟩) (Nat.lt_succ_self _)).trans e1
    have H0 : Hid _ := hrun3
    have HBU : Hid (Below w.heap.size w U) := hB3.trans (hBU.mono (Nat.le_succ _))
    have hsU : w.heap.size + 1 ≤ U.heap.size := Nat.le_trans hsz2 hBU.size
    have HOW3 : Hid _ := hown3
    clear HGV HWH HP4 hrun3 hown3 hgrow3 hBU
    obtain ⟨l, hl⟩ : ∃ l, l = x.L ++ [valF x.part] := ⟨_, rfl⟩
    rw [← hl] at HOW3 HEG
    have hlen3 : x.L.length + 1 = l.length := by rw [hl]; simp
    obtain ⟨la, lc, rfl, _⟩ := own_form HOW3.out
    have hfin := HG6.out HEG.out
    have HW6 : Hid (whole6 x = if x.gap < 0 then (if l.length = 8 then some l else none) else if l.length ≤ 7 then some (l.take x.gap.toNat ++ List.replicate (8 - l.length) 0 ++ l.drop x.gap.toNat) else none) := by
      have : whole6 x = if x.gap < 0 then (if l.length = 8 then some l else none) else if l.length ≤ 7 then some (l.take x.gap.toNat ++ List.replicate (8 - l.length) 0 ++ l.drop x.gap.toNat) else none := by unfold whole6; rw [HEG.out]
      exact this
    have HR : Hid _ := HOW3.out
    have eG : U.cell? ⟨w.heap.size, 1, none⟩ = some (.int .i64 x.gap) := eU
    clear HOW3 HEG hl eU
    have hl8 : ((l.length : Nat) : Int) ≤ 8 := by
      have := hfin.1
      have h8 : x.room ≤ 8 := by unfold SixS.room; split <;> omega
      omega
    by_cases hneg : x.gap < 0
    · have qn : decide (x.gap < 0) = true := decide_eq_true hneg
      by_cases h8 : l.length = 8
      · have q8 : ((l.length : Int) == 8) = true := by simp; omega
        have HWE : Hid _ := HW6.out.trans ((if_pos hneg).trans (if_pos h8))
        clear HW6 hfin h8
        go_wp2_with fail
        refine (HV.out W3).mono ?_
        rintro e w' ⟨rfl, rfl⟩
        go_wp2_with (at_builtin; refine wpList_append_run rfl _ _ _ _ rfl rfl rfl H0.out ?_; clear H0)
        rw [← HQ.out]
        exact Ans6.yes HWE.out rfl (row_base HR.out (by omega)) HBU.out
      · have q8 : ((l.length : Int) == 8) = false := by simp; omega
        have HWE : Hid _ := HW6.out.trans ((if_pos hneg).trans (if_neg h8))
        clear HW6 hfin h8
        go_wp2_with fail
        refine (HV.out W3).mono ?_
        rintro e w' ⟨rfl, rfl⟩
        go_wp2_with (at_builtin; refine wpList_append_run rfl _ _ _ _ rfl rfl rfl H0.out ?_; clear H0)
        rw [← HQ.out]
        exact Ans6.no HWE.out rfl HBU.out
    · obtain ⟨g, hgq⟩ : ∃ g : Nat, x.gap = (g : Int) := ⟨x.gap.toNat, by omega⟩
      have h77 : l.length ≤ 7 := by
        have := hfin.1
        unfold SixS.room at this
        rw [if_pos (by omega)] at this
        omega
      have hgl : g ≤ l.length := by have := hfin.2.1; omega
      have HWE : Hid (whole6 x = some (l.take g ++ List.replicate (8 - l.length) 0 ++ l.drop g)) := HW6.out.trans ((if_neg hneg).trans ((if_pos h77).trans (by rw [hgq]; rfl)))
      obtain ⟨_, _, hfe, _, hzl⟩ := own_form HR.out
      have hcl : ∀ (k : Nat) (hk : k < l.length), ∃ g3, la = some ⟨g3, 0, none⟩ ∧ g3 < U.heap.size ∧ U.cell? ⟨g3, k, none⟩ = some (.int .i64 l[k]) := fun k hk => by
        rcases hzl with hzl | ⟨g3, e3, _, hg3, hc3⟩
        · omega
        · simp at hfe
          rw [← hfe.1] at e3
          exact ⟨g3, e3, hg3, hc3 k _ (by rw [intsL, List.getElem?_map, List.getElem?_eq_getElem hk]; rfl)⟩
      have HCL : Hid _ := hcl
      rw [hgq] at eG
      have hq7 : (l.length : Int) ≤ 7 := by omega
      have qng : decide ((g : Int) < 0) = false := decide_eq_false (by omega)
      clear HW6 hfin hzl hfe hcl hneg hgq
      go_wp2_with fail
      refine (HV.out W3).mono ?_
      rintro e w' ⟨rfl, rfl⟩
      go_wp2_with (at_builtin; refine wpList_append_run rfl _ _ _ _ rfl rfl rfl H0.out ?_; clear H0)
      go_loopw [10, 11] (fun out i wr => ∃ k : Nat, k ≤ l.length + 1 ∧ i = .int .i64 k ∧ wr.ownsRow U.heap.size 3 1 out (outK l g k).length (intsL (outK l g k)) ∧ Below U.heap.size U wr) (fun _ i _ => l.length + 1 - (intOf i).toNat)
      case atStart => exact ⟨0, Nat.zero_le _, rfl, by unfold outK; rw [if_pos (Nat.zero_le _)]; exact World.ownsRow_nil _ _ _ _, Below.refl _ _⟩
      case round =>
        obtain ⟨k, hk, rfl, hout, hBr⟩ := hrel
        have hszr := hBr.size
        have f1 := (hBr.cell (p := ⟨w.heap.size, 1, none⟩) (by show w.heap.size < U.heap.size; omega)).trans eG
        by_cases hlt : k ≤ l.length
        · have hmk := outK_len l g k h77
          have hqk : (k : Int) ≤ (l.length : Int) := by omega
          by_cases hkn : k = g
          · subst hkn
            have hst : outK l k k = l.take k := by unfold outK; rw [if_pos (Nat.le_refl _)]
            rw [hst] at hout
            have HO : Hid _ := hout
            have HBR : Hid _ := hBr
            clear hout f1
            go_wp2
            go_loopw [10, 12] (fun out j wr => ∃ m : Nat, m ≤ 8 - l.length ∧ j = .int .i64 (l.length + m : Nat) ∧ wr.ownsRow U.heap.size 3 1 out (l.take k ++ List.replicate m 0).length (intsL (l.take k ++ List.replicate m 0)) ∧ Below U.heap.size U wr) (fun _ j _ => 8 - (intOf j).toNat)
            case atStart => exact ⟨0, Nat.zero_le _, by simp, by rw [List.replicate_zero, List.append_nil]; exact HO.out, HBR.out⟩
            case round =>
              clear HO
              obtain ⟨m, hm, rfl, hou, hBq⟩ := hrel
              have hszq := hBq.size
              have f2 : wr.cell? ⟨w.heap.size, 1, none⟩ = some (.int .i64 (k : Int)) := (hBq.cell (p := ⟨w.heap.size, 1, none⟩) (by show w.heap.size < U.heap.size; omega)).trans eG
              by_cases hm8 : l.length + m < 8
              · obtain ⟨v', w1, hrun, hown', hgrow⟩ := own_num hou hszq (by simp; omega) 0 87
                have hB1 := below_grown hBq hou hgrow hszq
                have e : l.take k ++ List.replicate m 0 ++ [0] = l.take k ++ List.replicate (m + 1) 0 := by rw [List.append_assoc, List.replicate_succ']
                rw [e] at hown'
                have H0 : Hid _ := hrun
                have HO : Hid _ := hown'
                have HB1 : Hid _ := hB1
                have hq : ((l.length + m : Nat) : Int) < 8 := by omega
                clear hrun hown' hB1 hou e
                go_wp2_with (at_builtin; refine wpList_append_run rfl _ _ _ _ rfl rfl rfl H0.out ?_; clear H0)
                exact ⟨⟨m + 1, by omega, by simp; omega, HO.out, HB1.out⟩, by simp [intOf]; omega⟩
              · obtain rfl : m = 8 - l.length := by omega
                have hq : ¬ ((l.length + (8 - l.length) : Nat) : Int) < 8 := by omega
                by_cases hkl : k < l.length
                · obtain ⟨g3, e3, hg3, hc3⟩ := HCL.out k hkl
                  have hck := (hBq.cell (p := ⟨g3, k, none⟩) hg3).trans hc3
                  have hx := List.getElem?_eq_getElem hkl
                  have hmn := midK_next l k k _ hgl hx
                  have hmo : midK l k k = l.take k ++ List.replicate (8 - l.length) 0 := by unfold midK; rw [if_pos rfl]
                  rw [hmo] at hmn
                  obtain ⟨v', w1, hrun, hown', hgrow⟩ := own_num hou hszq (by simp; omega) l[k] 87
                  have hB1 := below_grown hBq hou hgrow hszq
                  rw [hmn] at hown'
                  have H0 : Hid _ := hrun
                  have HO : Hid _ := hown'
                  have HB1 : Hid _ := hB1
                  have hq2 : (k : Int) < (l.length : Int) := by omega
                  subst e3
                  clear hrun hown' hB1 hmn hmo hx hou hc3 HCL HR
                  generalize l[k] = z at *
                  go_wp2_with (at_builtin; refine wpList_append_run rfl _ _ _ _ rfl rfl rfl H0.out ?_; clear H0)
                  exact ⟨⟨k + 1, by omega, by simp, HO.out, HB1.out⟩, by simp [intOf]; omega⟩
                · obtain rfl : k = l.length := by omega
                  have ho : l.take l.length ++ List.replicate (8 - l.length) 0 = outK l l.length (l.length + 1) := by
                    rw [outK_all l l.length (Nat.le_refl _), List.drop_length, List.append_nil]
                  rw [ho] at hou
                  have HO : Hid _ := hou
                  have hq2 : ¬ (l.length : Int) < (l.length : Int) := by omega
                  clear hou ho
                  go_wp2
                  exact ⟨⟨l.length + 1, by omega, by simp, HO.out, hBq⟩, by simp [intOf]⟩
          · have hq : ((k : Int) == (g : Int)) = false := by simp; omega
            by_cases hkl : k < l.length
            · obtain ⟨g3, e3, hg3, hc3⟩ := HCL.out k hkl
              have hck := (hBr.cell (p := ⟨g3, k, none⟩) hg3).trans hc3
              have hx := List.getElem?_eq_getElem hkl
              have hmn := midK_next l g k _ hgl hx
              have hmo : midK l g k = outK l g k := by unfold midK; rw [if_neg hkn]
              rw [hmo] at hmn
              obtain ⟨v', w1, hrun, hown', hgrow⟩ := own_num hout hszr (by omega) l[k] 87
              have hB1 := below_grown hBr hout hgrow hszr
              rw [hmn] at hown'
              have H0 : Hid _ := hrun
              have HO : Hid _ := hown'
              have HB1 : Hid _ := hB1
              have hq2 : (k : Int) < (l.length : Int) := by omega
              subst e3
              clear hrun hown' hB1 hmn hmo hx hout hc3 HCL HR
              generalize l[k] = z at *
              go_wp2
              go_loopw [10, 12] (fun out j wr' => out = u10 ∧ j = .int .i64 (l.length : Int) ∧ wr' = wr) (fun _ j _ => 0)
              case atStart => exact ⟨rfl, rfl, rfl⟩
              case round =>
                obtain ⟨rfl, rfl, rfl⟩ := hrel
                go_wp2_with (at_builtin; refine wpList_append_run rfl _ _ _ _ rfl rfl rfl H0.out ?_; clear H0)
                exact ⟨⟨k + 1, by omega, by simp, HO.out, HB1.out⟩, by simp [intOf]; omega⟩
            · obtain rfl : k = l.length := by omega
              have hmo : outK l g l.length = outK l g (l.length + 1) := by
                rw [← midK_last l g hgl]
                unfold midK
                rw [if_neg hkn]
              rw [hmo] at hout
              have HO : Hid _ := hout
              have HBR : Hid _ := hBr
              have hq2 : ¬ (l.length : Int) < (l.length : Int) := by omega
              clear hout hmo
              go_wp2
              go_loopw [10, 12] (fun out j wr' => out = u10 ∧ j = .int .i64 (l.length : Int) ∧ wr' = wr) (fun _ j _ => 0)
              case atStart => exact ⟨rfl, rfl, rfl⟩
              case round =>
                obtain ⟨rfl, rfl, rfl⟩ := hrel
                go_wp2
                exact ⟨⟨l.length + 1, by omega, by simp, HO.out, HBR.out⟩, by simp [intOf]⟩
        · obtain rfl : k = l.length + 1 := by omega
          rw [outK_all l g hgl] at hout
          have HO : Hid _ := hout
          have HBR : Hid _ := hBr
          have hqk : ¬ ((l.length + 1 : Nat) : Int) ≤ (l.length : Int) := by omega
          clear hout HCL
          go_wp2
          rw [← HQ.out]
          exact Ans6.yes HWE.out rfl (row_base HO.out (by omega)) (HBU.out.trans (HBR.out.mono (by omega)))
  | false =>
    by_cases hpe : x.part = []
    · have hse := toList_none p ((txt_empty p).1 (by rw [HP.out]; exact hpe))
      by_cases hgg : 0 ≤ x.gap ∧ x.gap = x.L.length
      · skip
        have HEG : Hid (givenG x = some x.L) := by
          have : givenG x = some x.L := by unfold givenG; rw [hgb, if_neg (by simp), if_neg (fun k => k.1 hpe), if_pos ⟨hpe, hgg⟩]
          exact this
        have qg : (x.gap == (x.L.length : Int)) = true := by simpa using hgg.2
        have qg0 := hgg.1
        have HOW3 : Hid _ := HOWN.out
        have HBU : Hid (Below w.heap.size w W3) := hB3
        have hsU := hsz2
        clear HGV HWH HP4
        have hfin := HG6.out HEG.out
        have HW6 : Hid (whole6 x = if x.gap < 0 then (if x.L.length = 8 then some x.L else none) else if x.L.length ≤ 7 then some (x.L.take x.gap.toNat ++ List.replicate (8 - x.L.length) 0 ++ x.L.drop x.gap.toNat) else none) := by
          have : whole6 x = if x.gap < 0 then (if x.L.length = 8 then some x.L else none) else if x.L.length ≤ 7 then some (x.L.take x.gap.toNat ++ List.replicate (8 - x.L.length) 0 ++ x.L.drop x.gap.toNat) else none := by unfold whole6; rw [HEG.out]
          exact this
        have HR : Hid _ := HOW3.out
        have eG := e1
        clear HOW3 HEG
        have hl8 : ((x.L.length : Nat) : Int) ≤ 8 := by
          have := hfin.1
          have h8 : x.room ≤ 8 := by unfold SixS.room; split <;> omega
          omega
        have hneg : ¬ x.gap < 0 := by omega
        obtain ⟨g, hgq⟩ : ∃ g : Nat, x.gap = (g : Int) := ⟨x.gap.toNat, by omega⟩
        have h77 : x.L.length ≤ 7 := by
          have := hfin.1
          unfold SixS.room at this
          rw [if_pos (by omega)] at this
          omega
        have hgl : g ≤ x.L.length := by have := hfin.2.1; omega
        have HWE : Hid (whole6 x = some (x.L.take g ++ List.replicate (8 - x.L.length) 0 ++ x.L.drop g)) := HW6.out.trans ((if_neg hneg).trans ((if_pos h77).trans (by rw [hgq]; rfl)))
        obtain ⟨_, _, hfe, _, hzl⟩ := own_form HR.out
        have hcl : ∀ (k : Nat) (hk : k < x.L.length), ∃ g3, a2 = some ⟨g3, 0, none⟩ ∧ g3 < W3.heap.size ∧ W3.cell? ⟨g3, k, none⟩ = some (.int .i64 x.L[k]) := fun k hk => by
          rcases hzl with hzl | ⟨g3, e3, _, hg3, hc3⟩
          · omega
          · simp at hfe
            rw [← hfe.1] at e3
            exact ⟨g3, e3, hg3, hc3 k _ (by rw [intsL, List.getElem?_map, List.getElem?_eq_getElem hk]; rfl)⟩
        have HCL : Hid _ := hcl
        rw [hgq] at eG
        have hq7 : (x.L.length : Int) ≤ 7 := by omega
        have qng : decide ((g : Int) < 0) = false := decide_eq_false (by omega)
        clear HW6 hfin hzl hfe hcl hneg hgq
        go_wp2
        go_loopw [10, 11] (fun out i wr => ∃ k : Nat, k ≤ x.L.length + 1 ∧ i = .int .i64 k ∧ wr.ownsRow W3.heap.size 3 1 out (outK x.L g k).length (intsL (outK x.L g k)) ∧ Below W3.heap.size W3 wr) (fun _ i _ => x.L.length + 1 - (intOf i).toNat)
        case atStart => exact ⟨0, Nat.zero_le _, rfl, by unfold outK; rw [if_pos (Nat.zero_le _)]; exact World.ownsRow_nil _ _ _ _, Below.refl _ _⟩
        case round =>
          obtain ⟨k, hk, rfl, hout, hBr⟩ := hrel
          have hszr := hBr.size
          have f1 := (hBr.cell (p := ⟨w.heap.size, 1, none⟩) (by show w.heap.size < W3.heap.size; omega)).trans eG
          by_cases hlt : k ≤ x.L.length
          · have hmk := outK_len x.L g k h77
            have hqk : (k : Int) ≤ (x.L.length : Int) := by omega
            by_cases hkn : k = g
            · subst hkn
              have hst : outK x.L k k = x.L.take k := by unfold outK; rw [if_pos (Nat.le_refl _)]
              rw [hst] at hout
              have HO : Hid _ := hout
              have HBR : Hid _ := hBr
              clear hout f1
              go_wp2
              go_loopw [10, 12] (fun out j wr => ∃ m : Nat, m ≤ 8 - x.L.length ∧ j = .int .i64 (x.L.length + m : Nat) ∧ wr.ownsRow W3.heap.size 3 1 out (x.L.take k ++ List.replicate m 0).length (intsL (x.L.take k ++ List.replicate m 0)) ∧ Below W3.heap.size W3 wr) (fun _ j _ => 8 - (intOf j).toNat)
              case atStart => exact ⟨0, Nat.zero_le _, by simp, by rw [List.replicate_zero, List.append_nil]; exact HO.out, HBR.out⟩
              case round =>
                clear HO
                obtain ⟨m, hm, rfl, hou, hBq⟩ := hrel
                have hszq := hBq.size
                have f2 : wr.cell? ⟨w.heap.size, 1, none⟩ = some (.int .i64 (k : Int)) := (hBq.cell (p := ⟨w.heap.size, 1, none⟩) (by show w.heap.size < W3.heap.size; omega)).trans eG
                by_cases hm8 : x.L.length + m < 8
                · obtain ⟨v', w1, hrun, hown', hgrow⟩ := own_num hou hszq (by simp; omega) 0 87
                  have hB1 := below_grown hBq hou hgrow hszq
                  have e : x.L.take k ++ List.replicate m 0 ++ [0] = x.L.take k ++ List.replicate (m + 1) 0 := by rw [List.append_assoc, List.replicate_succ']
                  rw [e] at hown'
                  have H0 : Hid _ := hrun
                  have HO : Hid _ := hown'
                  have HB1 : Hid _ := hB1
                  have hq : ((x.L.length + m : Nat) : Int) < 8 := by omega
                  clear hrun hown' hB1 hou e
                  go_wp2_with (at_builtin; refine wpList_append_run rfl _ _ _ _ rfl rfl rfl H0.out ?_; clear H0)
                  exact ⟨⟨m + 1, by omega, by simp; omega, HO.out, HB1.out⟩, by simp [intOf]; omega⟩
                · obtain rfl : m = 8 - x.L.length := by omega
                  have hq : ¬ ((x.L.length + (8 - x.L.length) : Nat) : Int) < 8 := by omega
                  by_cases hkl : k < x.L.length
                  · obtain ⟨g3, e3, hg3, hc3⟩ := HCL.out k hkl
                    have hck := (hBq.cell (p := ⟨g3, k, none⟩) hg3).trans hc3
                    have hx := List.getElem?_eq_getElem hkl
                    have hmn := midK_next x.L k k _ hgl hx
                    have hmo : midK x.L k k = x.L.take k ++ List.replicate (8 - x.L.length) 0 := by unfold midK; rw [if_pos rfl]
                    rw [hmo] at hmn
                    obtain ⟨v', w1, hrun, hown', hgrow⟩ := own_num hou hszq (by simp; omega) x.L[k] 87
                    have hB1 := below_grown hBq hou hgrow hszq
                    rw [hmn] at hown'
                    have H0 : Hid _ := hrun
                    have HO : Hid _ := hown'
                    have HB1 : Hid _ := hB1
                    have hq2 : (k : Int) < (x.L.length : Int) := by omega
                    subst e3
                    clear hrun hown' hB1 hmn hmo hx hou hc3 HCL HR
                    generalize x.L[k] = z at *
                    go_wp2_with (at_builtin; refine wpList_append_run rfl _ _ _ _ rfl rfl rfl H0.out ?_; clear H0)
                    exact ⟨⟨k + 1, by omega, by simp, HO.out, HB1.out⟩, by simp [intOf]; omega⟩
                  · obtain rfl : k = x.L.length := by omega
                    have ho : x.L.take x.L.length ++ List.replicate (8 - x.L.length) 0 = outK x.L x.L.length (x.L.length + 1) := by
                      rw [outK_all x.L x.L.length (Nat.le_refl _), List.drop_length, List.append_nil]
                    rw [ho] at hou
                    have HO : Hid _ := hou
                    have hq2 : ¬ (x.L.length : Int) < (x.L.length : Int) := by omega
                    clear hou ho
                    go_wp2
                    exact ⟨⟨x.L.length + 1, by omega, by simp, HO.out, hBq⟩, by simp [intOf]⟩
            · have hq : ((k : Int) == (g : Int)) = false := by simp; omega
              by_cases hkl : k < x.L.length
              · obtain ⟨g3, e3, hg3, hc3⟩ := HCL.out k hkl
                have hck := (hBr.cell (p := ⟨g3, k, none⟩) hg3).trans hc3
                have hx := List.getElem?_eq_getElem hkl
                have hmn := midK_next x.L g k _ hgl hx
                have hmo : midK x.L g k = outK x.L g k := by unfold midK; rw [if_neg hkn]
                rw [hmo] at hmn
                obtain ⟨v', w1, hrun, hown', hgrow⟩ := own_num hout hszr (by omega) x.L[k] 87
                have hB1 := below_grown hBr hout hgrow hszr
                rw [hmn] at hown'
                have H0 : Hid _ := hrun
                have HO : Hid _ := hown'
                have HB1 : Hid _ := hB1
                have hq2 : (k : Int) < (x.L.length : Int) := by omega
                subst e3
                clear hrun hown' hB1 hmn hmo hx hout hc3 HCL HR
                generalize x.L[k] = z at *
                go_wp2
                go_loopw [10, 12] (fun out j wr' => out = u10 ∧ j = .int .i64 (x.L.length : Int) ∧ wr' = wr) (fun _ j _ => 0)
                case atStart => exact ⟨rfl, rfl, rfl⟩
                case round =>
                  obtain ⟨rfl, rfl, rfl⟩ := hrel
                  go_wp2_with (at_builtin; refine wpList_append_run rfl _ _ _ _ rfl rfl rfl H0.out ?_; clear H0)
                  exact ⟨⟨k + 1, by omega, by simp, HO.out, HB1.out⟩, by simp [intOf]; omega⟩
              · obtain rfl : k = x.L.length := by omega
                have hmo : outK x.L g x.L.length = outK x.L g (x.L.length + 1) := by
                  rw [← midK_last x.L g hgl]
                  unfold midK
                  rw [if_neg hkn]
                rw [hmo] at hout
                have HO : Hid _ := hout
                have HBR : Hid _ := hBr
                have hq2 : ¬ (x.L.length : Int) < (x.L.length : Int) := by omega
                clear hout hmo
                go_wp2
                go_loopw [10, 12] (fun out j wr' => out = u10 ∧ j = .int .i64 (x.L.length : Int) ∧ wr' = wr) (fun _ j _ => 0)
                case atStart => exact ⟨rfl, rfl, rfl⟩
                case round =>
                  obtain ⟨rfl, rfl, rfl⟩ := hrel
                  go_wp2
                  exact ⟨⟨x.L.length + 1, by omega, by simp, HO.out, HBR.out⟩, by simp [intOf]⟩
          · obtain rfl : k = x.L.length + 1 := by omega
            rw [outK_all x.L g hgl] at hout
            have HO : Hid _ := hout
            have HBR : Hid _ := hBr
            have hqk : ¬ ((x.L.length + 1 : Nat) : Int) ≤ (x.L.length : Int) := by omega
            clear hout HCL
            go_wp2
            rw [← HQ.out]
            exact Ans6.yes HWE.out rfl (row_base HO.out (by omega)) (HBU.out.trans (HBR.out.mono (by omega)))
      · skip
        have HEG : Hid (whole6 x = none) := by
          have : whole6 x = none := by unfold whole6 givenG; rw [hgb, if_neg (by simp), if_neg (fun k => k.1 hpe), if_neg (fun k => hgg k.2)]
          exact this
        clear HGV HWH HP4
        by_cases hg0 : 0 ≤ x.gap
        · have qg : (x.gap == (x.L.length : Int)) = false := by simp; intro k; exact hgg ⟨hg0, k⟩
          go_wp2
          rw [← HQ.out]
          exact Ans6.no HEG.out rfl hB3
        · go_wp2
          rw [← HQ.out]
          exact Ans6.no HEG.out rfl hB3
    · have hse := toList_empty p (fun k => hpe (by rw [← HP.out]; exact (txt_empty p).2 k))
      cases hwb : whoB x.part with
      | false =>
        have HEG : Hid (whole6 x = none) := by
          have : whole6 x = none := by unfold whole6 givenG; rw [hgb, if_neg (by simp), if_neg (fun k => by rw [hwb] at k; exact absurd k.2 (by simp)), if_neg (fun k => hpe k.1)]
          exact this
        have hwf : Calls Tryd.prog 51 #[.string p] W3 fun e w' => e = .returned (.bool false) ∧ Below W3.heap.size W3 w' := by
          have := HWH.out W3
          rw [HP.out, hwb] at this
          exact this
        have HWF : Hid _ := hwf
        clear HGV HWH HP4 hwf
        go_wp2_with fail
        refine Calls.mono HWF.out ?_
        rintro e w4 ⟨rfl, hb4⟩
        have HBE : Hid (Below w.heap.size w w4) := hB3.trans (hb4.mono hB3.size)
        have k2 : w4.cell? ⟨w.heap.size, 2, none⟩ = some (.string p) := HC2.out ⟨w4, hb4⟩
        clear HWF hb4
        go_wp2
        rw [← HQ.out]
        exact Ans6.no HEG.out rfl HBE.out
      | true =>
        have HEG : Hid (givenG x = some (x.L ++ (match (rparse4 x.part).1 with | [a, b, c, d] => [a * 256 + b, c * 256 + d] | _ => []))) := by
          have : givenG x = some (x.L ++ (match (rparse4 x.part).1 with | [a, b, c, d] => [a * 256 + b, c * 256 + d] | _ => [])) := by unfold givenG; rw [hgb, if_neg (by simp), if_pos ⟨hpe, hwb⟩]; rfl
          exact this
        have hbeg : begB x.part = true := by
          have := hwb
          unfold whoB at this
          simp only [Bool.and_eq_true] at this
          exact this.1
        have hn := begN_full x.part hbeg x.part.length 0 (by omega)
        obtain ⟨z0, z1, z2, z3, e4, b0, b1, b2, b3⟩ := takes_parts x.part hwb
        have hr4 : rparse4 x.part = ([z0, z1, z2, z3], 0, 0) := by
          unfold rparse4
          simp only
          rw [hn, if_neg (by simp [hwb]), e4]
        rw [hr4] at HEG
        have hwf : Calls Tryd.prog 51 #[.string p] W3 fun e w' => e = .returned (.bool true) ∧ Below W3.heap.size W3 w' := by
          have := HWH.out W3
          rw [HP.out, hwb] at this
          exact this
        have hpf : ∀ W, Calls Tryd.prog 14 #[.string p] W fun e w' => e = .returned (.tuple #[.agg #[.int .u8 z0, .int .u8 z1, .int .u8 z2, .int .u8 z3], .int .i64 0, .int .i64 0]) ∧ Below W.heap.size W w' := fun W => by
          have := HP4.out W
          unfold Par4Post at this
          rw [HP.out, hr4] at this
          exact this
        have HWF : Hid _ := hwf
        have HPF : Hid _ := hpf
        clear HGV HWH HP4 hwf hpf hn e4 hr4 hbeg
        go_wp2_with fail
        refine Calls.mono HWF.out ?_
        rintro e w4 ⟨rfl, hb4⟩
        have k2 : w4.cell? ⟨w.heap.size, 2, none⟩ = some (.string p) := HC2.out ⟨w4, hb4⟩
        have hB4 := hb4
        clear HWF hb4
        go_wp2_with fail
        refine Calls.mono (HPF.out _) ?_
        rintro e w5 ⟨rfl, hb5⟩
        obtain ⟨w6, hw6⟩ : ∃ w6, w6 = w5.alloc (.cells #[.int .u8 z0, .int .u8 z1, .int .u8 z2, .int .u8 z3] 23) := ⟨_, rfl⟩
        have hB6 : Below W3.heap.size W3 w6 := by rw [hw6]; exact (hB4.trans (hb5.mono hB4.size)).alloc (hB4.trans (hb5.mono hB4.size)).size _
        have hrow6 := row_kept HOWN.out (fun g _ hg => hB6.block g hg)
        have hs6 : w.heap.size + 1 ≤ w6.heap.size := Nat.le_trans hsz2 hB6.size
        obtain ⟨v3, U, hrun3, hown3, hgrow3⟩ := own_num2 hrow6 hs6 (by omega) (z0 * 256 + z1) (z2 * 256 + z3) 87
        have hBU : Below (w.heap.size + 1) W3 U := (hB6.mono hsz2).trans (below_grown (Below.refl _ _) hrow6 hgrow3 hs6)
        have eU : U.cell? ⟨w.heap.size, 1, none⟩ = some (.int .i64 x.gap) := (hBU.cell (p := ⟨w.heap.size, 1, none⟩) (Nat.lt_succ_self _)).trans e1
        have hsz6 : w6.heap.size = w5.heap.size + 1 := by rw [hw6]; simp
        rw [hsz6, hw6] at hrun3
        clear hsz6
        have H0 : Hid _ := hrun3
        have HBU : Hid (Below w.heap.size w U) := hB3.trans (hBU.mono (Nat.le_succ _))
        have hsU : w.heap.size + 1 ≤ U.heap.size := Nat.le_trans hsz2 hBU.size
        have HOW3 : Hid _ := hown3
        clear HPF hrun3 hown3 hgrow3 hBU hrow6 hB6 hw6 hs6 hb5
        obtain ⟨l, hl⟩ : ∃ l, l = x.L ++ [z0 * 256 + z1, z2 * 256 + z3] := ⟨_, rfl⟩
        rw [← hl] at HOW3 HEG
        have hlen3 : x.L.length + 2 = l.length := by rw [hl]; simp
        obtain ⟨la, lc, rfl, _⟩ := own_form HOW3.out
        have hfin := HG6.out HEG.out
        have HW6 : Hid (whole6 x = if x.gap < 0 then (if l.length = 8 then some l else none) else if l.length ≤ 7 then some (l.take x.gap.toNat ++ List.replicate (8 - l.length) 0 ++ l.drop x.gap.toNat) else none) := by
          have : whole6 x = if x.gap < 0 then (if l.length = 8 then some l else none) else if l.length ≤ 7 then some (l.take x.gap.toNat ++ List.replicate (8 - l.length) 0 ++ l.drop x.gap.toNat) else none := by unfold whole6; rw [HEG.out]
          exact this
        have HR : Hid _ := HOW3.out
        have eG : U.cell? ⟨w.heap.size, 1, none⟩ = some (.int .i64 x.gap) := eU
        clear HOW3 HEG hl eU
        have hl8 : ((l.length : Nat) : Int) ≤ 8 := by
          have := hfin.1
          have h8 : x.room ≤ 8 := by unfold SixS.room; split <;> omega
          omega
        by_cases hneg : x.gap < 0
        · have qn : decide (x.gap < 0) = true := decide_eq_true hneg
          by_cases h8 : l.length = 8
          · have q8 : ((l.length : Int) == 8) = true := by simp; omega
            have HWE : Hid _ := HW6.out.trans ((if_pos hneg).trans (if_pos h8))
            clear HW6 hfin h8
            go_wp2_with (at_builtin; refine wpList_append_run rfl _ _ _ _ rfl rfl rfl H0.out ?_; clear H0)
            rw [← HQ.out]
            exact Ans6.yes HWE.out rfl (row_base HR.out (by omega)) HBU.out
          · have q8 : ((l.length : Int) == 8) = false := by simp; omega
            have HWE : Hid _ := HW6.out.trans ((if_pos hneg).trans (if_neg h8))
            clear HW6 hfin h8
            go_wp2_with (at_builtin; refine wpList_append_run rfl _ _ _ _ rfl rfl rfl H0.out ?_; clear H0)
            rw [← HQ.out]
            exact Ans6.no HWE.out rfl HBU.out
        · obtain ⟨g, hgq⟩ : ∃ g : Nat, x.gap = (g : Int) := ⟨x.gap.toNat, by omega⟩
          have h77 : l.length ≤ 7 := by
            have := hfin.1
            unfold SixS.room at this
            rw [if_pos (by omega)] at this
            omega
          have hgl : g ≤ l.length := by have := hfin.2.1; omega
          have HWE : Hid (whole6 x = some (l.take g ++ List.replicate (8 - l.length) 0 ++ l.drop g)) := HW6.out.trans ((if_neg hneg).trans ((if_pos h77).trans (by rw [hgq]; rfl)))
          obtain ⟨_, _, hfe, _, hzl⟩ := own_form HR.out
          have hcl : ∀ (k : Nat) (hk : k < l.length), ∃ g3, la = some ⟨g3, 0, none⟩ ∧ g3 < U.heap.size ∧ U.cell? ⟨g3, k, none⟩ = some (.int .i64 l[k]) := fun k hk => by
            rcases hzl with hzl | ⟨g3, e3, _, hg3, hc3⟩
            · omega
            · simp at hfe
              rw [← hfe.1] at e3
              exact ⟨g3, e3, hg3, hc3 k _ (by rw [intsL, List.getElem?_map, List.getElem?_eq_getElem hk]; rfl)⟩
          have HCL : Hid _ := hcl
          rw [hgq] at eG
          have hq7 : (l.length : Int) ≤ 7 := by omega
          have qng : decide ((g : Int) < 0) = false := decide_eq_false (by omega)
          clear HW6 hfin hzl hfe hcl hneg hgq
          go_wp2_with (at_builtin; refine wpList_append_run rfl _ _ _ _ rfl rfl rfl H0.out ?_; clear H0)
          go_loopw [10, 11] (fun out i wr => ∃ k : Nat, k ≤ l.length + 1 ∧ i = .int .i64 k ∧ wr.ownsRow U.heap.size 3 1 out (outK l g k).length (intsL (outK l g k)) ∧ Below U.heap.size U wr) (fun _ i _ => l.length + 1 - (intOf i).toNat)
          case atStart => exact ⟨0, Nat.zero_le _, rfl, by unfold outK; rw [if_pos (Nat.zero_le _)]; exact World.ownsRow_nil _ _ _ _, Below.refl _ _⟩
          case round =>
            obtain ⟨k, hk, rfl, hout, hBr⟩ := hrel
            have hszr := hBr.size
            have f1 := (hBr.cell (p := ⟨w.heap.size, 1, none⟩) (by show w.heap.size < U.heap.size; omega)).trans eG
            by_cases hlt : k ≤ l.length
            · have hmk := outK_len l g k h77
              have hqk : (k : Int) ≤ (l.length : Int) := by omega
              by_cases hkn : k = g
              · subst hkn
                have hst : outK l k k = l.take k := by unfold outK; rw [if_pos (Nat.le_refl _)]
                rw [hst] at hout
                have HO : Hid _ := hout
                have HBR : Hid _ := hBr
                clear hout f1
                go_wp2
                go_loopw [10, 12] (fun out j wr => ∃ m : Nat, m ≤ 8 - l.length ∧ j = .int .i64 (l.length + m : Nat) ∧ wr.ownsRow U.heap.size 3 1 out (l.take k ++ List.replicate m 0).length (intsL (l.take k ++ List.replicate m 0)) ∧ Below U.heap.size U wr) (fun _ j _ => 8 - (intOf j).toNat)
                case atStart => exact ⟨0, Nat.zero_le _, by simp, by rw [List.replicate_zero, List.append_nil]; exact HO.out, HBR.out⟩
                case round =>
                  clear HO
                  obtain ⟨m, hm, rfl, hou, hBq⟩ := hrel
                  have hszq := hBq.size
                  have f2 : wr.cell? ⟨w.heap.size, 1, none⟩ = some (.int .i64 (k : Int)) := (hBq.cell (p := ⟨w.heap.size, 1, none⟩) (by show w.heap.size < U.heap.size; omega)).trans eG
                  by_cases hm8 : l.length + m < 8
                  · obtain ⟨v', w1, hrun, hown', hgrow⟩ := own_num hou hszq (by simp; omega) 0 87
                    have hB1 := below_grown hBq hou hgrow hszq
                    have e : l.take k ++ List.replicate m 0 ++ [0] = l.take k ++ List.replicate (m + 1) 0 := by rw [List.append_assoc, List.replicate_succ']
                    rw [e] at hown'
                    have H0 : Hid _ := hrun
                    have HO : Hid _ := hown'
                    have HB1 : Hid _ := hB1
                    have hq : ((l.length + m : Nat) : Int) < 8 := by omega
                    clear hrun hown' hB1 hou e
                    go_wp2_with (at_builtin; refine wpList_append_run rfl _ _ _ _ rfl rfl rfl H0.out ?_; clear H0)
                    exact ⟨⟨m + 1, by omega, by simp; omega, HO.out, HB1.out⟩, by simp [intOf]; omega⟩
                  · obtain rfl : m = 8 - l.length := by omega
                    have hq : ¬ ((l.length + (8 - l.length) : Nat) : Int) < 8 := by omega
                    by_cases hkl : k < l.length
                    · obtain ⟨g3, e3, hg3, hc3⟩ := HCL.out k hkl
                      have hck := (hBq.cell (p := ⟨g3, k, none⟩) hg3).trans hc3
                      have hx := List.getElem?_eq_getElem hkl
                      have hmn := midK_next l k k _ hgl hx
                      have hmo : midK l k k = l.take k ++ List.replicate (8 - l.length) 0 := by unfold midK; rw [if_pos rfl]
                      rw [hmo] at hmn
                      obtain ⟨v', w1, hrun, hown', hgrow⟩ := own_num hou hszq (by simp; omega) l[k] 87
                      have hB1 := below_grown hBq hou hgrow hszq
                      rw [hmn] at hown'
                      have H0 : Hid _ := hrun
                      have HO : Hid _ := hown'
                      have HB1 : Hid _ := hB1
                      have hq2 : (k : Int) < (l.length : Int) := by omega
                      subst e3
                      clear hrun hown' hB1 hmn hmo hx hou hc3 HCL HR
                      generalize l[k] = z at *
                      go_wp2_with (at_builtin; refine wpList_append_run rfl _ _ _ _ rfl rfl rfl H0.out ?_; clear H0)
                      exact ⟨⟨k + 1, by omega, by simp, HO.out, HB1.out⟩, by simp [intOf]; omega⟩
                    · obtain rfl : k = l.length := by omega
                      have ho : l.take l.length ++ List.replicate (8 - l.length) 0 = outK l l.length (l.length + 1) := by
                        rw [outK_all l l.length (Nat.le_refl _), List.drop_length, List.append_nil]
                      rw [ho] at hou
                      have HO : Hid _ := hou
                      have hq2 : ¬ (l.length : Int) < (l.length : Int) := by omega
                      clear hou ho
                      go_wp2
                      exact ⟨⟨l.length + 1, by omega, by simp, HO.out, hBq⟩, by simp [intOf]⟩
              · have hq : ((k : Int) == (g : Int)) = false := by simp; omega
                by_cases hkl : k < l.length
                · obtain ⟨g3, e3, hg3, hc3⟩ := HCL.out k hkl
                  have hck := (hBr.cell (p := ⟨g3, k, none⟩) hg3).trans hc3
                  have hx := List.getElem?_eq_getElem hkl
                  have hmn := midK_next l g k _ hgl hx
                  have hmo : midK l g k = outK l g k := by unfold midK; rw [if_neg hkn]
                  rw [hmo] at hmn
                  obtain ⟨v', w1, hrun, hown', hgrow⟩ := own_num hout hszr (by omega) l[k] 87
                  have hB1 := below_grown hBr hout hgrow hszr
                  rw [hmn] at hown'
                  have H0 : Hid _ := hrun
                  have HO : Hid _ := hown'
                  have HB1 : Hid _ := hB1
                  have hq2 : (k : Int) < (l.length : Int) := by omega
                  subst e3
                  clear hrun hown' hB1 hmn hmo hx hout hc3 HCL HR
                  generalize l[k] = z at *
                  go_wp2
                  go_loopw [10, 12] (fun out j wr' => out = u10 ∧ j = .int .i64 (l.length : Int) ∧ wr' = wr) (fun _ j _ => 0)
                  case atStart => exact ⟨rfl, rfl, rfl⟩
                  case round =>
                    obtain ⟨rfl, rfl, rfl⟩ := hrel
                    go_wp2_with (at_builtin; refine wpList_append_run rfl _ _ _ _ rfl rfl rfl H0.out ?_; clear H0)
                    exact ⟨⟨k + 1, by omega, by simp, HO.out, HB1.out⟩, by simp [intOf]; omega⟩
                · obtain rfl : k = l.length := by omega
                  have hmo : outK l g l.length = outK l g (l.length + 1) := by
                    rw [← midK_last l g hgl]
                    unfold midK
                    rw [if_neg hkn]
                  rw [hmo] at hout
                  have HO : Hid _ := hout
                  have HBR : Hid _ := hBr
                  have hq2 : ¬ (l.length : Int) < (l.length : Int) := by omega
                  clear hout hmo
                  go_wp2
                  go_loopw [10, 12] (fun out j wr' => out = u10 ∧ j = .int .i64 (l.length : Int) ∧ wr' = wr) (fun _ j _ => 0)
                  case atStart => exact ⟨rfl, rfl, rfl⟩
                  case round =>
                    obtain ⟨rfl, rfl, rfl⟩ := hrel
                    go_wp2
                    exact ⟨⟨l.length + 1, by omega, by simp, HO.out, HBR.out⟩, by simp [intOf]⟩
            · obtain rfl : k = l.length + 1 := by omega
              rw [outK_all l g hgl] at hout
              have HO : Hid _ := hout
              have HBR : Hid _ := hBr
              have hqk : ¬ ((l.length + 1 : Nat) : Int) ≤ (l.length : Int) := by omega
              clear hout HCL
              go_wp2
              rw [← HQ.out]
              exact Ans6.yes HWE.out rfl (row_base HO.out (by omega)) (HBU.out.trans (HBR.out.mono (by omega)))
end Go.Proofs.YtlpbffcijhgelaaDoor
