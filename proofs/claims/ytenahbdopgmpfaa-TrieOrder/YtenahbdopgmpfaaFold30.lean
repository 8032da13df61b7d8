/-
  del keeps the keys' bound; keys in order, as bytes.
  Under4, Over4 of a table that was made, whatever the prefix.
-/
import Derived.Test.YtenahbdopgmpfaaFold22
import Derived.Test.YtenahbdopgmpfaaFold29
import Derived.Test.YtenahbdopgmpfaaFold26
namespace Go.Proofs.Ytenahbdopgmpfaa
open Go Go.RowKit Go.Shelf
set_option linter.unusedVariables false
set_option linter.unusedSimpArgs false

theorem slim_okT {f : Bs} {a b c : Tr} (h : (Tr.fork f a b c).Ok) : (Tr.slim (.fork f a b c)).Ok := by
  obtain ⟨h0, h1, h2, h3⟩ := h
  show Tr.Ok (if a.some1 + b.some1 + c.some1 = 1 then (if c.isNil then (if b.isNil then a else b) else c) else .fork f a b c)
  split
  · split
    · split <;> assumption
    · assumption
  · exact ⟨h0, h1, h2, h3⟩
theorem del_okT {t : Tr} (h : t.Ok) (k : Bs) : (t.del k).Ok := by
  induction t with
  | nil => exact trivial
  | leaf k' v' => exact trivial
  | fork f a b c iha ihb ihc =>
    obtain ⟨h0, h1, h2, h3⟩ := h
    rw [Tr.del]
    split
    · exact slim_okT ⟨h0, iha h1, h2, h3⟩
    · split
      · exact slim_okT ⟨h0, h1, ihb h2, h3⟩
      · exact slim_okT ⟨h0, h1, h2, ihc h3⟩
/-- Bytes in order. -/
def ltI : List Int → List Int → Bool
  | [], [] => false
  | [], _ :: _ => true
  | _ :: _, [] => false
  | x :: xs, y :: ys => if x = y then ltI xs ys else decide (x < y)
theorem bt_cons (x : Bool) (xs : Bs) (p : Nat) : bt (x :: xs) (p + 1) = bt xs p := by simp [bt]
theorem bt_zero (x : Bool) (xs : Bs) : bt (x :: xs) 0 = x.toNat := by simp [bt]
theorem bt_nil (p : Nat) : bt [] p = 0 := by simp [bt]
theorem bool_nat {x y : Bool} (h : x.toNat = y.toNat) : x = y := by revert h; cases x <;> cases y <;> decide
theorem ltB_at : ∀ (p : Nat) (a b : Bs), (∀ i, i < p → bt a i = bt b i) → bt a p < bt b p → ltB a b = true
  | _, [], [], _, h => by simp [bt_nil] at h
  | _, [], _ :: _, _, _ => rfl
  | p, _ :: _, [], _, h => by simp [bt_nil] at h
  | 0, x :: xs, y :: ys, _, h => by
    rw [bt_zero, bt_zero] at h
    revert h
    cases x <;> cases y <;> simp [ltB]
  | p + 1, x :: xs, y :: ys, h, g => by
    have h0 := h 0 (by omega)
    rw [bt_zero, bt_zero] at h0
    obtain rfl := bool_nat h0
    rw [bt_cons, bt_cons] at g
    simp only [ltB, if_true]
    exact ltB_at p xs ys (fun i hi => by have := h (i + 1) (by omega); rwa [bt_cons, bt_cons] at this) g
theorem ltB_pad : ∀ (a b : Bs), (∀ i, bt a i = bt b i) → ltB a b = decide (a.length < b.length)
  | [], [], _ => rfl
  | [], _ :: _, _ => by simp [ltB]
  | _ :: _, [], _ => by simp [ltB]
  | x :: xs, y :: ys, h => by
    have h0 := h 0
    rw [bt_zero, bt_zero] at h0
    obtain rfl := bool_nat h0
    simp only [ltB, if_true]
    rw [ltB_pad xs ys (fun i => by have := h (i + 1); rwa [bt_cons, bt_cons] at this)]
    simp
theorem ltI_at : ∀ (q : Nat) (A B : List Int) (x y : Int), (∀ i, i < q → A[i]? = B[i]?) → A[q]? = some x → B[q]? = some y → x ≠ y → ltI A B = decide (x < y)
  | _, [], _, _, _, _, h, _, _ => by simp at h
  | _, _ :: _, [], _, _, _, _, h, _ => by simp at h
  | 0, a :: as2, b :: bs, x, y, _, h1, h2, hn => by
    simp at h1 h2
    subst h1 h2
    simp [ltI, hn]
  | q + 1, a :: as2, b :: bs, x, y, h, h1, h2, hn => by
    have h0 := h 0 (by omega)
    simp at h0
    subst h0
    simp only [ltI, if_true]
    exact ltI_at q as2 bs x y (fun i hi => by have := h (i + 1) (by omega); simpa using this) (by simpa using h1) (by simpa using h2) hn
theorem byteV_lt_at (a b : Bs) (q r : Nat) (hr : r < 8) (h : ∀ j, j < r → bt a (8 * q + j) = bt b (8 * q + j)) (g : bt a (8 * q + r) < bt b (8 * q + r)) : byteV a q < byteV b q := by
  unfold byteV
  have A0 := bt_lt a (8 * q); have A1 := bt_lt a (8 * q + 1); have A2 := bt_lt a (8 * q + 2); have A3 := bt_lt a (8 * q + 3)
  have A4 := bt_lt a (8 * q + 4); have A5 := bt_lt a (8 * q + 5); have A6 := bt_lt a (8 * q + 6); have A7 := bt_lt a (8 * q + 7)
  have B0 := bt_lt b (8 * q); have B1 := bt_lt b (8 * q + 1); have B2 := bt_lt b (8 * q + 2); have B3 := bt_lt b (8 * q + 3)
  have B4 := bt_lt b (8 * q + 4); have B5 := bt_lt b (8 * q + 5); have B6 := bt_lt b (8 * q + 6); have B7 := bt_lt b (8 * q + 7)
  have e : ∀ j, j < r → bt a (8 * q + j) = bt b (8 * q + j) := h
  rcases (by omega : r = 0 ∨ r = 1 ∨ r = 2 ∨ r = 3 ∨ r = 4 ∨ r = 5 ∨ r = 6 ∨ r = 7) with rfl | rfl | rfl | rfl | rfl | rfl | rfl | rfl
  · simp only [Nat.add_zero] at g; omega
  · have e0 := e 0 (by omega); simp only [Nat.add_zero] at e0; omega
  · have e0 := e 0 (by omega); have e1 := e 1 (by omega); simp only [Nat.add_zero] at e0; omega
  · have e0 := e 0 (by omega); have e1 := e 1 (by omega); have e2 := e 2 (by omega); simp only [Nat.add_zero] at e0; omega
  · have e0 := e 0 (by omega); have e1 := e 1 (by omega); have e2 := e 2 (by omega); have e3 := e 3 (by omega); simp only [Nat.add_zero] at e0; omega
  · have e0 := e 0 (by omega); have e1 := e 1 (by omega); have e2 := e 2 (by omega); have e3 := e 3 (by omega); have e4 := e 4 (by omega); simp only [Nat.add_zero] at e0; omega
  · have e0 := e 0 (by omega); have e1 := e 1 (by omega); have e2 := e 2 (by omega); have e3 := e 3 (by omega); have e4 := e 4 (by omega); have e5 := e 5 (by omega); simp only [Nat.add_zero] at e0; omega
  · have e0 := e 0 (by omega); have e1 := e 1 (by omega); have e2 := e 2 (by omega); have e3 := e 3 (by omega); have e4 := e 4 (by omega); have e5 := e 5 (by omega); have e6 := e 6 (by omega); simp only [Nat.add_zero] at e0; omega
theorem least {P : Nat → Prop} : ∀ (n : Nat), P n → ∃ p, P p ∧ p ≤ n ∧ ∀ i, i < p → ¬ P i := by
  intro n
  induction n using Nat.strongRecOn with
  | _ n ih =>
    intro h
    by_cases c : ∃ i, i < n ∧ P i
    · obtain ⟨i, hi, hp⟩ := c
      obtain ⟨p, h1, h2, h3⟩ := ih i hi hp
      exact ⟨p, h1, by omega, h3⟩
    · exact ⟨n, h, Nat.le_refl _, fun i hi hp => c ⟨i, hi, hp⟩⟩
theorem bt_end {a : Bs} {p : Nat} (h : a.length ≤ p) : bt a p = 0 := by simp [bt, List.getElem?_eq_none h]
/-- The document's order of prefixes is the order of keys. -/
theorem ahead_key {m : Nat} {a b : Bs} (ha : a.length ≤ 8 * m) (hb : b.length ≤ 8 * m) : (if bytN m a = bytN m b then decide (a.length < b.length) else ltI (bytN m a) (bytN m b)) = ltB a b := by
  by_cases c : ∃ p, bt a p ≠ bt b p
  · obtain ⟨n, hn⟩ := c
    obtain ⟨p, h1, -, h3⟩ := least (P := fun p => bt a p ≠ bt b p) n hn
    have same : ∀ i, i < p → bt a i = bt b i := fun i hi => Classical.not_not.1 (h3 i hi)
    have hp : p < 8 * m := by
      refine Classical.byContradiction fun hc => h1 ?_
      rw [bt_end (by omega), bt_end (by omega)]
    have qs : ∀ i, i < p / 8 → (bytN m a)[i]? = (bytN m b)[i]? := fun i hi => by
      rw [bytN_get _ _ _ (by omega), bytN_get _ _ _ (by omega)]
      unfold byteV
      rw [same _ (by omega), same (8 * i + 1) (by omega), same (8 * i + 2) (by omega), same (8 * i + 3) (by omega), same (8 * i + 4) (by omega), same (8 * i + 5) (by omega), same (8 * i + 6) (by omega), same (8 * i + 7) (by omega)]
    have ga := bytN_get m a (p / 8) (by omega)
    have gb := bytN_get m b (p / 8) (by omega)
    have ep : 8 * (p / 8) + p % 8 = p := by omega
    rcases Nat.lt_or_gt_of_ne h1 with h | h
    · have hv := byteV_lt_at a b (p / 8) (p % 8) (by omega) (fun j hj => same _ (by omega)) (by rw [ep]; exact h)
      rw [if_neg (fun e => by rw [e, gb] at ga; injection ga with ga; omega), ltI_at (p / 8) _ _ _ _ qs ga gb (by omega), ltB_at p a b same h]
      simp; omega
    · have hv := byteV_lt_at b a (p / 8) (p % 8) (by omega) (fun j hj => (same _ (by omega)).symm) (by rw [ep]; exact h)
      rw [if_neg (fun e => by rw [e, gb] at ga; injection ga with ga; omega), ltI_at (p / 8) _ _ _ _ qs ga gb (by omega), ltB_asym (ltB_at p b a (fun i hi => (same i hi).symm) h)]
      simp; omega
  · have same : ∀ i, bt a i = bt b i := fun i => Classical.not_not.1 (fun h => c ⟨i, h⟩)
    have e : bytN m a = bytN m b := by
      refine List.ext_getElem? fun i => ?_
      by_cases hi : i < m
      · rw [bytN_get _ _ _ hi, bytN_get _ _ _ hi]
        unfold byteV
        simp only [same]
      · rw [List.getElem?_eq_none (by rw [bytN_length]; omega), List.getElem?_eq_none (by rw [bytN_length]; omega)]
    rw [if_pos e, ltB_pad a b same]
end Go.Proofs.Ytenahbdopgmpfaa

namespace Go.Proofs.Ytenahbdopgmpfaa
open Go Go.RowKit Go.Shelf
set_option linter.unusedVariables false
set_option linter.unusedSimpArgs false

set_option maxHeartbeats 1000000 in
set_option maxRecDepth 100000 in
theorem list4_bad {W : World} {b : Nat} {lim cnt : Int} {T4 T6 : Tr} (h : W.heap[b]? = some (.cells (tbC true lim cnt T4 T6).toArray 76)) (c : List Value) (hc : c.length = 5) (f : Value) (hck : ∀ X : World, X.heap[b]? = some (.cells (tbC true lim cnt T4 T6).toArray 76) → Calls Try.prog 52 #[.pointer (some ⟨b, 0, none⟩), .agg c.toArray] X fun e w' => e = .returned (.int .i64 22) ∧ Below X.heap.size X w') :
    Calls Try.prog 57 #[.pointer (some ⟨b, 0, none⟩), .agg c.toArray, f] W fun e w' => e = .returned (.tuple #[.slice none 0 0, .int .i64 22]) ∧ Below W.heap.size W w' := by
  have HB : Hid _ := (Below.refl W.heap.size W).alloc (Nat.le_refl _) (.cells c.toArray 35)
  have HC : Hid _ := hck _ (blk_on h HB.out)
  have HL : Hid _ := agg_load (t := 35) (n := 5) (fun w => by kernel_rfl) (fun w => by kernel_rfl) hc (CellsAt.of_blk (blk_new W (.cells c.toArray 35)))
  clear h hc hck
  go_enter Try.func57, Try.ntmps57
  go_wp2_with ((with_reducible show wpList _ _ _ _ _ _); refine armLv (.tmp 4) 35 rfl rfl rfl HL.out ?_)
  refine Calls.mono HC.out ?_
  rintro e w1 ⟨rfl, hb1⟩
  have HK : Hid _ := HB.out.trans (hb1.mono HB.out.size)
  clear hb1 HC HL
  go_wp2
  try go_ret2
  exact ⟨rfl, HK.out⟩
set_option maxHeartbeats 1000000 in
set_option maxRecDepth 100000 in
theorem Under4_bad {W : World} {b : Nat} {lim cnt : Int} {T4 T6 : Tr} (h : W.heap[b]? = some (.cells (tbC true lim cnt T4 T6).toArray 76)) (c : List Value) (hc : c.length = 5) (hck : ∀ X : World, X.heap[b]? = some (.cells (tbC true lim cnt T4 T6).toArray 76) → Calls Try.prog 52 #[.pointer (some ⟨b, 0, none⟩), .agg c.toArray] X fun e w' => e = .returned (.int .i64 22) ∧ Below X.heap.size X w') :
    Calls Try.prog 28 #[.pointer (some ⟨b, 0, none⟩), .agg c.toArray] W fun e w' => e = .returned (.tuple #[.slice none 0 0, .int .i64 22]) ∧ Below W.heap.size W w' := by
  have HB : Hid _ := (Below.refl W.heap.size W).alloc (Nat.le_refl _) (.cells c.toArray 35)
  have HC : Hid _ := fun f => list4_bad (blk_on h HB.out) c hc f hck
  have HL : Hid _ := agg_load (t := 35) (n := 5) (fun w => by kernel_rfl) (fun w => by kernel_rfl) hc (CellsAt.of_blk (blk_new W (.cells c.toArray 35)))
  clear h hc hck
  go_enter Try.func28, Try.ntmps28
  go_wp2_with ((with_reducible show wpList _ _ _ _ _ _); refine armLv (.tmp 3) 35 rfl rfl rfl HL.out ?_)
  refine Calls.mono (HC.out _) ?_
  rintro e w1 ⟨rfl, hb1⟩
  have HK : Hid _ := HB.out.trans (hb1.mono HB.out.size)
  clear hb1 HC HL
  go_wp2
  try go_ret2
  exact ⟨rfl, HK.out⟩
set_option maxHeartbeats 1000000 in
set_option maxRecDepth 100000 in
theorem Over4_bad {W : World} {b : Nat} {lim cnt : Int} {T4 T6 : Tr} (h : W.heap[b]? = some (.cells (tbC true lim cnt T4 T6).toArray 76)) (c : List Value) (hc : c.length = 5) (hck : ∀ X : World, X.heap[b]? = some (.cells (tbC true lim cnt T4 T6).toArray 76) → Calls Try.prog 52 #[.pointer (some ⟨b, 0, none⟩), .agg c.toArray] X fun e w' => e = .returned (.int .i64 22) ∧ Below X.heap.size X w') :
    Calls Try.prog 29 #[.pointer (some ⟨b, 0, none⟩), .agg c.toArray] W fun e w' => e = .returned (.tuple #[.slice none 0 0, .int .i64 22]) ∧ Below W.heap.size W w' := by
  have HB : Hid _ := (Below.refl W.heap.size W).alloc (Nat.le_refl _) (.cells c.toArray 35)
  have HC : Hid _ := fun f => list4_bad (blk_on h HB.out) c hc f hck
  have HL : Hid _ := agg_load (t := 35) (n := 5) (fun w => by kernel_rfl) (fun w => by kernel_rfl) hc (CellsAt.of_blk (blk_new W (.cells c.toArray 35)))
  clear h hc hck
  go_enter Try.func29, Try.ntmps29
  go_wp2_with ((with_reducible show wpList _ _ _ _ _ _); refine armLv (.tmp 3) 35 rfl rfl rfl HL.out ?_)
  refine Calls.mono (HC.out _) ?_
  rintro e w1 ⟨rfl, hb1⟩
  have HK : Hid _ := HB.out.trans (hb1.mono HB.out.size)
  clear hb1 HC HL
  go_wp2
  try go_ret2
  exact ⟨rfl, HK.out⟩
/-- What is under a key, and what is over it. -/
def undL (T : Tr) (ok : Bool) (k : Bs) : List Ent := if ok = false then [] else (T.walk (fun q => pre k q || pre q k)).filter (fun e => pre k e.1)
def ovrL (T : Tr) (ok : Bool) (k : Bs) : List Ent := if ok = false then [] else T.walk (fun q => pre q k)
theorem Under4_any {W : World} {b : Nat} {lim cnt : Int} {T4 T6 : Tr} (h : W.heap[b]? = some (.cells (tbC true lim cnt T4 T6).toArray 76)) (hok : T4.Ok) (hn : T4.ents.length ≤ 100000) (a0 a1 a2 a3 n : Int) (h0 : 0 ≤ a0 ∧ a0 < 256) (h1 : 0 ≤ a1 ∧ a1 < 256) (h2 : 0 ≤ a2 ∧ a2 < 256) (h3 : 0 ≤ a3 ∧ a3 < 256) (hb : -9223372036854775808 ≤ n ∧ n ≤ 9223372036854775807) :
    Calls Try.prog 28 #[.pointer (some ⟨b, 0, none⟩), P4 a0 a1 a2 a3 n] W fun e w' => ∃ vs, e = .returned (.tuple #[vs, .int .i64 (if okP4 a0 a1 a2 a3 n then 0 else 22)]) ∧ w'.ownsRow W.heap.size 47 6 vs (undL T4 (okP4 a0 a1 a2 a3 n) (keyN [a0, a1, a2, a3] n)).length ((undL T4 (okP4 a0 a1 a2 a3 n) (keyN [a0, a1, a2, a3] n)).flatMap ec4) ∧ Below W.heap.size W w' := by
  have hf : FitB [a0, a1, a2, a3] := fun z hz => by
    simp at hz
    rcases hz with rfl | rfl | rfl | rfl <;> assumption
  cases hp : okP4 a0 a1 a2 a3 n with
  | false =>
    refine (Under4_bad h _ (by rfl) (fun X hX => by
      have := check4_made hX a0 a1 a2 a3 n h0 h1 h2 h3 hb
      rw [hp] at this
      exact this)).mono ?_
    rintro e w' ⟨rfl, hb1⟩
    exact ⟨_, rfl, World.ownsRow_nil _ _ _ _, hb1⟩
  | true =>
    obtain ⟨hkey, hkl⟩ := key4_num hf hp
    have hw := Under4_made h hok hn _ rfl (keyN [a0, a1, a2, a3] n) (by omega) (fun X hX => by
      have := check4_made hX a0 a1 a2 a3 n h0 h1 h2 h3 hb
      rw [hp] at this
      exact this) (fun X => by
      have := key4_any [a0, a1, a2, a3] rfl n X
      rw [hkey] at this
      exact this)
    exact hw
theorem Over4_any {W : World} {b : Nat} {lim cnt : Int} {T4 T6 : Tr} (h : W.heap[b]? = some (.cells (tbC true lim cnt T4 T6).toArray 76)) (hok : T4.Ok) (hn : T4.ents.length ≤ 100000) (a0 a1 a2 a3 n : Int) (h0 : 0 ≤ a0 ∧ a0 < 256) (h1 : 0 ≤ a1 ∧ a1 < 256) (h2 : 0 ≤ a2 ∧ a2 < 256) (h3 : 0 ≤ a3 ∧ a3 < 256) (hb : -9223372036854775808 ≤ n ∧ n ≤ 9223372036854775807) :
    Calls Try.prog 29 #[.pointer (some ⟨b, 0, none⟩), P4 a0 a1 a2 a3 n] W fun e w' => ∃ vs, e = .returned (.tuple #[vs, .int .i64 (if okP4 a0 a1 a2 a3 n then 0 else 22)]) ∧ w'.ownsRow W.heap.size 47 6 vs (ovrL T4 (okP4 a0 a1 a2 a3 n) (keyN [a0, a1, a2, a3] n)).length ((ovrL T4 (okP4 a0 a1 a2 a3 n) (keyN [a0, a1, a2, a3] n)).flatMap ec4) ∧ Below W.heap.size W w' := by
  have hf : FitB [a0, a1, a2, a3] := fun z hz => by
    simp at hz
    rcases hz with rfl | rfl | rfl | rfl <;> assumption
  cases hp : okP4 a0 a1 a2 a3 n with
  | false =>
    refine (Over4_bad h _ (by rfl) (fun X hX => by
      have := check4_made hX a0 a1 a2 a3 n h0 h1 h2 h3 hb
      rw [hp] at this
      exact this)).mono ?_
    rintro e w' ⟨rfl, hb1⟩
    exact ⟨_, rfl, World.ownsRow_nil _ _ _ _, hb1⟩
  | true =>
    obtain ⟨hkey, hkl⟩ := key4_num hf hp
    have hw := Over4_made h hok hn _ rfl (keyN [a0, a1, a2, a3] n) (by omega) (fun X hX => by
      have := check4_made hX a0 a1 a2 a3 n h0 h1 h2 h3 hb
      rw [hp] at this
      exact this) (fun X => by
      have := key4_any [a0, a1, a2, a3] rfl n X
      rw [hkey] at this
      exact this)
    exact hw
set_option maxHeartbeats 1000000 in
set_option maxRecDepth 100000 in
theorem New_bad (n : Int) (hn : n < 0 ∨ 65536 < n) (hb : -9223372036854775808 ≤ n ∧ n ≤ 9223372036854775807) (w : World) : Calls Try.prog 8 #[.int .i64 n] w fun e w' => e = .returned (.tuple #[.pointer none, .int .i64 1]) ∧ w' = w := by
  rcases hn with hn | hn
  · have q : decide (n < 0) = true := decide_eq_true hn
    go_enter Try.func8, Try.ntmps8
    go_wp2
    try go_ret2
    exact ⟨rfl, rfl⟩
  · have q : decide (n < 0) = false := decide_eq_false (by omega)
    have q2 : decide (65536 < n) = true := decide_eq_true hn
    go_enter Try.func8, Try.ntmps8
    go_wp2
    try go_ret2
    exact ⟨rfl, rfl⟩
end Go.Proofs.Ytenahbdopgmpfaa
