/-
  The document's table of prefixes: entries looked up, plainly; its rows and cells.
  The document's table in memory.
-/
import Derived.Test.YtenahbdopgmpfaaFold31
import Derived.Test.YtenahbdopgmpfaaFold30
namespace Go.Proofs.Ytenahbdopgmpfaa
open Go Go.RowKit Go.Shelf
set_option linter.unusedVariables false
set_option linter.unusedSimpArgs false

/-- Looked up. -/
def lookN (k : Bs) : List Ent → Int × Bool
  | [] => (0, false)
  | e :: r => if e.1 = k then (e.2, true) else lookN k r
theorem lookN_none {k : Bs} : ∀ {l : List Ent}, (∀ e ∈ l, e.1 ≠ k) → lookN k l = (0, false)
  | [], _ => rfl
  | e :: r, h => by
    rw [lookN, if_neg (h e (by simp))]
    exact lookN_none fun x hx => h x (by simp [hx])
theorem lookN_skip {k : Bs} : ∀ {A B : List Ent}, (∀ e ∈ A, e.1 ≠ k) → lookN k (A ++ B) = lookN k B
  | [], _, _ => rfl
  | e :: r, B, h => by
    rw [List.cons_append, lookN, if_neg (h e (by simp))]
    exact lookN_skip fun x hx => h x (by simp [hx])
theorem ltB_ne {a b : Bs} (h : ltB a b = true) : a ≠ b := fun e => by rw [e, ltB_irr] at h; cases h
theorem got_look {l : List Ent} (h : Srt l) (k : Bs) : getN (l.filter (fun e => pre e.1 k)) k = lookN k l := by
  by_cases c : ∃ v, (k, v) ∈ l
  · obtain ⟨v, hv⟩ := c
    obtain ⟨A, B, rfl⟩ := List.append_of_mem hv
    unfold Srt at h
    rw [List.pairwise_append] at h
    obtain ⟨_, h2, h3⟩ := h
    have hB : B.filter (fun e => pre e.1 k) = [] := by
      rw [List.filter_eq_nil_iff]
      intro e he hp
      have h4 := (List.pairwise_cons.1 h2).1 e he
      by_cases ek : e.1 = k
      · rw [ek, ltB_irr] at h4; cases h4
      · rw [ltB_asym (ltB_pre (pre_iff.1 hp) ek)] at h4; cases h4
    have hk : pre k k = true := pre_iff.2 List.prefix_rfl
    rw [List.filter_append, List.filter_cons, if_pos hk, hB, lookN_skip (fun e he => ltB_ne (h3 e he (k, v) (by simp)))]
    simp [getN, lookN]
  · rw [lookN_none (fun e he ek => c ⟨e.2, by rw [← ek]; exact he⟩)]
    unfold getN
    split
    · rename_i e he
      have := List.mem_of_mem_getLast? (he ▸ rfl : e ∈ (l.filter (fun e => pre e.1 k)).getLast?)
      rw [if_neg (fun ek => c ⟨e.2, by rw [← ek]; exact (List.mem_filter.1 this).1⟩)]
    · rfl
theorem gotN_look {T : Tr} (h : T.wf) (k : Bs) : gotN T k = lookN k T.ents := by
  unfold gotN
  rw [walk_over h, got_look (ents_srt h)]

/-- Where an entry is put. -/
theorem ins_at {k : Bs} {v : Int} {l : List Ent} {i : Nat} (hi : i ≤ l.length) (h1 : ∀ j e, j < i → l[j]? = some e → ltB e.1 k = true) (h2 : ∀ e, l[i]? = some e → ltB e.1 k = false) :
    ins k v l = l.take i ++ (match l[i]? with | some e => if e.1 = k then (k, v) :: l.drop (i + 1) else (k, v) :: l.drop i | none => [(k, v)]) := by
  have h1' : ∀ e ∈ l.take i, ltB e.1 k = true := fun e he => by
    obtain ⟨j, hj⟩ := List.getElem?_of_mem he
    have hlt := (List.getElem?_eq_some_iff.1 hj).1
    rw [List.length_take] at hlt
    rw [List.getElem?_take, if_pos (by omega)] at hj
    exact h1 j e (by omega) hj
  conv => lhs; rw [← List.take_append_drop i l]
  rw [ins_left h1']
  congr 1
  cases hx : l[i]? with
  | none =>
    rw [List.drop_eq_nil_of_le (by rw [List.getElem?_eq_none_iff] at hx; exact hx)]
    rfl
  | some e =>
    obtain ⟨hlt, rfl⟩ := List.getElem?_eq_some_iff.1 hx
    rw [List.drop_eq_getElem_cons hlt]
    simp only [ins]
    rw [if_neg (by rw [h2 _ hx]; simp)]
theorem look_at {k : Bs} {l : List Ent} {i : Nat} (hs : Srt l) (h1 : ∀ j e, j < i → l[j]? = some e → ltB e.1 k = true) (h2 : ∀ e, l[i]? = some e → ltB e.1 k = false) :
    lookN k l = match l[i]? with | some e => if e.1 = k then (e.2, true) else (0, false) | none => (0, false) := by
  have h1' : ∀ e ∈ l.take i, e.1 ≠ k := fun e he => by
    obtain ⟨j, hj⟩ := List.getElem?_of_mem he
    have hlt := (List.getElem?_eq_some_iff.1 hj).1
    rw [List.length_take] at hlt
    rw [List.getElem?_take, if_pos (by omega)] at hj
    exact ltB_ne (h1 j e (by omega) hj)
  conv => lhs; rw [← List.take_append_drop i l]
  rw [lookN_skip h1']
  cases hx : l[i]? with
  | none =>
    rw [List.drop_eq_nil_of_le (by rw [List.getElem?_eq_none_iff] at hx; exact hx)]
    rfl
  | some e =>
    obtain ⟨hlt, rfl⟩ := List.getElem?_eq_some_iff.1 hx
    have hd : Srt (l.drop i) := List.Pairwise.sublist (List.drop_sublist i l) hs
    rw [List.drop_eq_getElem_cons hlt] at hd ⊢
    simp only [lookN]
    by_cases c : l[i].1 = k
    · rw [if_pos c, if_pos c]
    · rw [if_neg c, if_neg c]
      refine lookN_none fun e he ek => ?_
      have h4 := (List.pairwise_cons.1 hd).1 e he
      rw [ek] at h4
      rw [h2 _ hx] at h4
      cases h4
/-- The best one: the longest, the first of alike. -/
def bstN (g : Bs → Bool) (l : List Ent) : Option Ent := l.foldl (fun a e => if g e.1 && (match a with | none => true | some b => decide (b.1.length < e.1.length)) then some e else a) none
theorem bstN_snoc (g : Bs → Bool) (l : List Ent) (e : Ent) : bstN g (l ++ [e]) = if g e.1 && (match bstN g l with | none => true | some b => decide (b.1.length < e.1.length)) then some e else bstN g l := by
  unfold bstN
  rw [List.foldl_append]
  rfl
theorem srt_init {l : List Ent} {e : Ent} (h : Srt (l ++ [e])) : Srt l ∧ ∀ x ∈ l, ltB x.1 e.1 = true := by
  unfold Srt at *
  rw [List.pairwise_append] at h
  exact ⟨h.1, fun x hx => h.2.2 x hx e (by simp)⟩
theorem pre_lt {a b c : Bs} (h : pre a c = true) (g : pre b c = true) (o : ltB a b = true) : a.length < b.length := by
  rcases pre_meet (pre_iff.1 h) (pre_iff.1 g) with m | m
  · have h1 := m.length_le
    have : a ≠ b := ltB_ne o
    refine Nat.lt_of_le_of_ne h1 (fun e => this (m.eq_of_length e))
  · by_cases e : b = a
    · rw [e, ltB_irr] at o; cases o
    · rw [ltB_asym (ltB_pre m e)] at o; cases o
theorem snoc_ind {α : Type} {P : List α → Prop} (h0 : P []) (h1 : ∀ l x, P l → P (l ++ [x])) (l : List α) : P l := by
  rw [← List.reverse_reverse l]
  induction l.reverse with
  | nil => exact h0
  | cons x r ih => rw [List.reverse_cons]; exact h1 _ _ ih
theorem bst_last (c : Bs) : ∀ (l : List Ent), Srt l → bstN (fun k => pre k c) l = (l.filter (fun e => pre e.1 c)).getLast? := by
  refine snoc_ind (fun _ => rfl) ?_
  · intro l e ih h
    obtain ⟨hs, hl⟩ := srt_init h
    rw [bstN_snoc, ih hs, List.filter_append]
    cases hp : pre e.1 c with
    | false => simp [hp]
    | true =>
      have : (match (l.filter (fun e => pre e.1 c)).getLast? with | none => true | some b => decide (b.1.length < e.1.length)) = true := by
        split
        · rfl
        · rename_i b hb
          have hm := List.mem_filter.1 (List.mem_of_mem_getLast? (hb ▸ rfl : b ∈ (l.filter (fun e => pre e.1 c)).getLast?))
          exact decide_eq_true (pre_lt hm.2 hp (hl b hm.1))
      rw [this]
      simp [hp]
/-- No longer one has it. -/
theorem last_most {c : Bs} {l : List Ent} (h : Srt l) {b : Ent} (hb : (l.filter (fun e => pre e.1 c)).getLast? = some b) {e : Ent} (he : e ∈ l) (hp : pre e.1 c = true) : e.1.length ≤ b.1.length := by
  have hs : Srt (l.filter (fun e => pre e.1 c)) := List.Pairwise.sublist List.filter_sublist h
  have hm : e ∈ l.filter (fun e => pre e.1 c) := List.mem_filter.2 ⟨he, hp⟩
  have hall : ∀ x ∈ l.filter (fun e => pre e.1 c), pre x.1 c = true := fun x hx => (List.mem_filter.1 hx).2
  generalize l.filter (fun e => pre e.1 c) = m at *
  obtain ⟨m', rfl⟩ := List.getLast?_eq_some_iff.1 hb
  rcases List.mem_append.1 hm with g | g
  · exact Nat.le_of_lt (pre_lt (hall e hm) (hall b (by simp)) ((srt_init hs).2 e g))
  · simp at g; rw [g]; exact Nat.le_refl _
end Go.Proofs.Ytenahbdopgmpfaa

namespace Go.Proofs.Ytenahbdopgmpfaa
open Go Go.RowKit Go.Shelf
set_option linter.unusedVariables false
set_option linter.unusedSimpArgs false

theorem hi_binT {P : Program} {w : World} {o : Oper} {a : Act} {K : Act → Prop} (b : BinOp) (t u : TypeId) (x y : Operand) (hop : o.op = Op.binOp b t x y u) {vx vy v : Value} (hx : a.eval x = vx) (hy : a.eval y = vy) (hgd : ∀ W, (eqGuard b t x y vx vy).run P W = .ok () W) (hrun : ∀ W, (binOp b t vx vy).run P W = .ok v W) (hK : K (a.put o.dst v)) :
    o.quiet P a (fun w' => ∃ x : Hi w, w' = x.W) K := by
  refine ⟨v, fun W hW => ?_, hK⟩
  unfold Oper.quietAt
  simp [execOp, hop, hx, hy, hgd, hrun, Result.andThen, Oper.quietUpon]
theorem ec4_eq (e : Ent) : ec4 e = cp6 (bytN 4 e.1) e.1.length ++ [.int .i64 e.2] := rfl
theorem ec6_eq (e : Ent) : ec6 e = cp6 (bytN 16 e.1) e.1.length ++ [.int .i64 e.2] := rfl
theorem cpN_length (m : Nat) (k : Bs) (n : Int) : (cp6 (bytN m k) n).length = m + 1 := by simp [cp6, u8s, bytN_length]
theorem flat_at {f : Ent → List Value} {k : Nat} (hk : ∀ e, (f e).length = k) : ∀ {l : List Ent} {j : Nat} {e : Ent}, l[j]? = some e → ∀ (i : Nat) u, (f e)[i]? = some u → (l.flatMap f)[j * k + i]? = some u
  | [], j, e, h, _, _, _ => by simp at h
  | x :: l, 0, e, h, i, u, hu => by
    simp at h
    subst h
    rw [List.flatMap_cons, List.getElem?_append_left (by have := (List.getElem?_eq_some_iff.1 hu).1; omega)]
    simpa using hu
  | x :: l, j + 1, e, h, i, u, hu => by
    rw [List.getElem?_cons_succ] at h
    rw [List.flatMap_cons, List.getElem?_append_right (by rw [hk, Nat.succ_mul]; omega), hk, show (j + 1) * k + i - k = j * k + i by rw [Nat.succ_mul]; omega]
    exact flat_at hk h i u hu
theorem own_atT {W : World} {base k : Nat} {t : TypeId} {v : Value} {f : Ent → List Value} (hk : ∀ e, (f e).length = k) {l : List Ent} (h : W.ownsRow base t k v l.length (l.flatMap f)) {j : Nat} {e : Ent} (hj : l[j]? = some e) :
    ∃ g c, v = .slice (some ⟨g, 0, none⟩) l.length c ∧ g < W.heap.size ∧ base ≤ g ∧ CellsAt W g (j * k) (f e) := by
  have hjl := (List.getElem?_eq_some_iff.1 hj).1
  rcases h.2 with ⟨_, h0⟩ | ⟨g, c, cur, rfl, h1, h2, h3⟩
  · omega
  · refine ⟨g, c, rfl, (Array.getElem?_eq_some_iff.1 h2).1, h1, fun i u hu => ?_⟩
    have := h.cells (g := g) rfl (j * k + i) u (flat_at hk hj i u hu)
    rw [Go.WideShapes.add_plain] at this
    simpa using this
/-- The document's table. -/
structure Doc (b : Nat) (lim : Int) (l4 l6 : List Ent) (v4 v6 : Value) (W : World) : Prop where
  box : W.heap[b]? = some (.cells [.int .i64 lim, v4, v6].toArray 63)
  r4 : W.ownsRow (b + 1) 47 6 v4 l4.length (l4.flatMap ec4)
  r6 : W.ownsRow (b + 1) 51 18 v6 l6.length (l6.flatMap ec6)
  ne : ∀ g, v4.ownBlock = some g → v6.ownBlock ≠ some g
theorem Doc.on {b : Nat} {lim : Int} {l4 l6 : List Ent} {v4 v6 : Value} {W W' : World} (h : Doc b lim l4 l6 v4 v6 W) (hb : Below W.heap.size W W') : Doc b lim l4 l6 v4 v6 W' :=
  ⟨blk_on h.box hb, own_sameT h.r4 (fun b hb' => hb.block b (own_ltT h.r4 hb').2), own_sameT h.r6 (fun b hb' => hb.block b (own_ltT h.r6 hb').2), h.ne⟩
theorem Doc.lt {b : Nat} {lim : Int} {l4 l6 : List Ent} {v4 v6 : Value} {W : World} (h : Doc b lim l4 l6 v4 v6 W) : b < W.heap.size := (Array.getElem?_eq_some_iff.1 h.box).1
abbrev PK4 (k : Bs) : Value := .agg (cp6 (bytN 4 k) k.length).toArray
abbrev PK6 (k : Bs) : Value := .agg (cp6 (bytN 16 k) k.length).toArray
set_option maxHeartbeats 1000000 in
set_option maxRecDepth 100000 in
theorem eqP4T (d : Nat) (zs ys : List Int) (n m : Int) (h : FitB zs) (g : FitB ys) (hl : zs.length = 4) (gl : ys.length = 4) (w : World) :
    (Op.equalIn (d + 3) 35 (.agg (cp6 zs n).toArray) (.agg (cp6 ys m).toArray)).run Try.prog w = .ok (decide (zs = ys) && (n == m)) w := by
  have h1 : ∀ W, (Op.equalIn (d + 2) 33 (.agg (u8s zs).toArray) (.agg (u8s ys).toArray)).run Try.prog W = .ok (decide (zs = ys)) W := fun W => eq_arr4 d zs ys h g hl gl W
  have q : ∀ (l : List Int) (n : Int), l.length = 4 → (cp6 l n).toArray.extract 0 4 = (u8s l).toArray ∧ (cp6 l n).toArray[4]? = some (Value.int .i64 n) := fun l n hl => by
    have : (u8s l).length = 4 := by rw [u8s_length, hl]
    exact ⟨by apply Array.ext'; simp [cp6, this], by simp [cp6, this]⟩
  obtain ⟨p1, p3⟩ := q zs n hl
  obtain ⟨p2, p4⟩ := q ys m gl
  have h2 : ∀ W, (Op.equalIn (d + 2) 3 (.int .i64 n) (.int .i64 m)).run Try.prog W = .ok (n == m) W := fun W => by simp [Op.equalIn, go_sem]
  generalize (cp6 zs n).toArray = x at *
  generalize (cp6 ys m).toArray = y at *
  generalize (u8s zs).toArray = u at *
  generalize (u8s ys).toArray = v at *
  have hstd : Try.prog.stoodInHeld 35 = false := by kernel_rfl
  show (Op.equalIn ((d + 2) + 1) _ _ _).run Try.prog w = _
  rw [Op.equalIn]
  generalize Op.equalIn (d + 2) = E at *
  generalize decide (zs = ys) = q at *
  generalize (n == m) = r at *
  cases q
  · simp [go_sem, hstd, p1, p2, p3, p4, h1, h2]
  · cases r <;> simp [go_sem, hstd, p1, p2, p3, p4, h1, h2]
theorem gdP4T (b : BinOp) (x y : Operand) (u v : Array Value) (w : World) : (eqGuard b 35 x y (.agg u) (.agg v)).run Try.prog w = .ok () w := by
  have he : Try.prog.eqGuardType Try.prog.depth 35 = false := by kernel_rfl
  cases b <;> simp [eqGuard, go_sem, he]
theorem eqKT {m : Nat} {p q : Bs} (hp : p.length ≤ 8 * m) : (decide (bytN m p = bytN m q) && ((p.length : Int) == q.length)) = decide (p = q) := by
  rw [show ((p.length : Int) == q.length) = decide ((p.length : Int) = q.length) from rfl, ← Bool.decide_and]
  refine decide_eq_decide.2 ⟨fun h => bytN_inj (by omega) (by omega) h.1, fun h => by subst h; exact ⟨rfl, rfl⟩⟩
theorem eqlK4 {p q : Bs} (hp : p.length ≤ 32) (w : World) : (binOp .eql 35 (PK4 p) (PK4 q)).run Try.prog w = .ok (.bool (decide (p = q))) w := by
  have := eqP4T 9997 (bytN 4 p) (bytN 4 q) p.length q.length (bytN_fit _ _) (bytN_fit _ _) (bytN_length _ _) (bytN_length _ _) w
  rw [eqKT hp] at this
  simp only [binOp, Op.equal, Op.maxDepth]
  simp [this]
theorem neqK4 {p q : Bs} (hp : p.length ≤ 32) (w : World) : (binOp .neq 35 (PK4 p) (PK4 q)).run Try.prog w = .ok (.bool (!decide (p = q))) w := by
  have := eqP4T 9997 (bytN 4 p) (bytN 4 q) p.length q.length (bytN_fit _ _) (bytN_fit _ _) (bytN_length _ _) (bytN_length _ _) w
  rw [eqKT hp] at this
  simp only [binOp, Op.equal, Op.maxDepth]
  simp [this]
theorem eqlK6 {p q : Bs} (hp : p.length ≤ 128) (w : World) : (binOp .eql 39 (PK6 p) (PK6 q)).run Try.prog w = .ok (.bool (decide (p = q))) w := by
  have := eqlP6 (bytN 16 p) (bytN 16 q) p.length q.length (bytN_fit _ _) (bytN_fit _ _) (bytN_length _ _) (bytN_length _ _) w
  rw [eqKT hp] at this
  exact this
theorem neqK6 {p q : Bs} (hp : p.length ≤ 128) (w : World) : (binOp .neq 39 (PK6 p) (PK6 q)).run Try.prog w = .ok (.bool (!decide (p = q))) w := by
  have := neqP6 (bytN 16 p) (bytN 16 q) p.length q.length (bytN_fit _ _) (bytN_fit _ _) (bytN_length _ _) (bytN_length _ _) w
  rw [eqKT hp] at this
  exact this
theorem RCheck4_key {k : Bs} (hk : k.length ≤ 32) (W : World) : Calls Try.prog 48 #[PK4 k] W fun e w' => e = .returned (.int .i64 0) ∧ Below W.heap.size W w' := by
  have := RCheck4_calls (byteV k 0 : Nat) (byteV k 1 : Nat) (byteV k 2 : Nat) (byteV k 3 : Nat) k.length W (by have := byteV_lt k 0; omega) (by have := byteV_lt k 1; omega) (by have := byteV_lt k 2; omega) (by have := byteV_lt k 3; omega) (by omega)
  rw [okP4_byt hk] at this
  exact this
theorem RCheck6_key {k : Bs} (hk : k.length ≤ 128) (W : World) : Calls Try.prog 50 #[PK6 k] W fun e w' => e = .returned (.int .i64 0) ∧ Below W.heap.size W w' := by
  have := RCheck6_calls (bytN 16 k) k.length W (bytN_fit _ _) (bytN_length _ _) (by omega)
  rw [okP6_byt hk] at this
  exact this
theorem RHas4_key {p a : Bs} (hp : p.length ≤ 32) (ha : a.length = 32) (W : World) : Calls Try.prog 18 #[PK4 p, .agg (u8s (bytN 4 a)).toArray] W fun e w' => e = .returned (.tuple #[.bool (pre p a), .int .i64 0]) ∧ Below W.heap.size W w' := by
  have := RHas4_calls (byteV p 0 : Nat) (byteV p 1 : Nat) (byteV p 2 : Nat) (byteV p 3 : Nat) p.length (byteV a 0 : Nat) (byteV a 1 : Nat) (byteV a 2 : Nat) (byteV a 3 : Nat) W (by have := byteV_lt p 0; omega) (by have := byteV_lt p 1; omega) (by have := byteV_lt p 2; omega) (by have := byteV_lt p 3; omega) (by omega) (by have := byteV_lt a 0; omega) (by have := byteV_lt a 1; omega) (by have := byteV_lt a 2; omega) (by have := byteV_lt a 3; omega)
  rw [okP4_byt hp, hasB_byt ha hp] at this
  exact this
theorem RHas6_key {p a : Bs} (hp : p.length ≤ 128) (ha : a.length = 128) (W : World) : Calls Try.prog 19 #[PK6 p, .agg (u8s (bytN 16 a)).toArray] W fun e w' => e = .returned (.tuple #[.bool (pre p a), .int .i64 0]) ∧ Below W.heap.size W w' := by
  have := RHas6_calls (bytN 16 p) p.length (bytN 16 a) W (bytN_fit _ _) (bytN_length _ _) (bytN_fit _ _) (bytN_length _ _) (by omega)
  rw [okP6_byt hp, has6_byt ha hp] at this
  exact this
theorem rcovB_byt {p q : Bs} (hp : p.length ≤ 32) (hq : q.length ≤ 32) : rcovB (byteV p 0 : Nat) (byteV p 1 : Nat) (byteV p 2 : Nat) (byteV p 3 : Nat) p.length (byteV q 0 : Nat) (byteV q 1 : Nat) (byteV q 2 : Nat) (byteV q 3 : Nat) q.length = pre p q := by
  unfold rcovB hasB
  rw [← blR4, ← byt4, ← byt4, blR_bytN, pre_take]
  by_cases h : p.length ≤ q.length
  · rw [decide_eq_true h, show decide ((p.length : Int) ≤ q.length) = true from decide_eq_true (by omega), Bool.true_and, Bool.and_true]
    exact decide_eq_decide.2 ⟨fun e => (bytN_inj (by rw [List.length_take]; omega) (by rw [List.length_take]; omega) e).symm, fun e => (congrArg (bytN 4) e).symm⟩
  · rw [decide_eq_false h, show decide ((p.length : Int) ≤ q.length) = false from decide_eq_false (by omega), Bool.false_and, Bool.and_false]
theorem RCover4_key {p q : Bs} (hp : p.length ≤ 32) (hq : q.length ≤ 32) (W : World) : Calls Try.prog 61 #[PK4 p, PK4 q] W fun e w' => e = .returned (.tuple #[.bool (pre p q), .int .i64 0]) ∧ Below W.heap.size W w' := by
  have := RCover4_calls (byteV p 0 : Nat) (byteV p 1 : Nat) (byteV p 2 : Nat) (byteV p 3 : Nat) p.length (byteV q 0 : Nat) (byteV q 1 : Nat) (byteV q 2 : Nat) (byteV q 3 : Nat) q.length W (by have := byteV_lt p 0; omega) (by have := byteV_lt p 1; omega) (by have := byteV_lt p 2; omega) (by have := byteV_lt p 3; omega) (by omega) (by have := byteV_lt q 0; omega) (by have := byteV_lt q 1; omega) (by have := byteV_lt q 2; omega) (by have := byteV_lt q 3; omega) (by omega)
  rw [okP4_byt hp, okP4_byt hq, rcovB_byt hp hq] at this
  exact this
theorem ld_pk4 {W : World} {g o : Nat} {e : Ent} (h : CellsAt W g o (ec4 e)) : (Instr.loadAt 35 (.pointer (some ⟨g, o, none⟩))).run Try.prog W = .ok (PK4 e.1) W :=
  agg_load (n := 5) (fun w => by kernel_rfl) (fun w => by kernel_rfl) (cpN_length _ _ _) (CellsAt.fst (ys := [Value.int .i64 e.2]) h)
theorem ld_bx4 {W : World} {b : Nat} {k : Bs} (h : W.heap[b]? = some (.cells (cp6 (bytN 4 k) k.length).toArray 35)) : (Instr.loadAt 35 (.pointer (some ⟨b, 0, none⟩))).run Try.prog W = .ok (PK4 k) W :=
  agg_load (n := 5) (fun w => by kernel_rfl) (fun w => by kernel_rfl) (cpN_length _ _ _) (CellsAt.of_blk h)
theorem ld_en4 {W : World} {g o : Nat} {e : Ent} (h : CellsAt W g o (ec4 e)) : (Instr.loadAt 47 (.pointer (some ⟨g, o, none⟩))).run Try.prog W = .ok (.agg (ec4 e).toArray) W :=
  agg_load (n := 6) (fun w => by kernel_rfl) (fun w => by kernel_rfl) (ec4_len _) h
theorem ec4_v (e : Ent) : (ec4 e)[5]? = some (.int .i64 e.2) := by
  rw [ec4_eq, List.getElem?_append_right (by rw [cpN_length]; exact Nat.le_refl _), cpN_length]
  rfl
theorem ec4_n (e : Ent) : (ec4 e)[4]? = some (.int .i64 e.1.length) := by
  rw [ec4_eq, List.getElem?_append_left (by rw [cpN_length]; decide)]
  have := cp6_at (bytN 4 e.1) e.1.length
  rwa [bytN_length] at this
theorem ld_pk6 {W : World} {g o : Nat} {e : Ent} (h : CellsAt W g o (ec6 e)) : (Instr.loadAt 39 (.pointer (some ⟨g, o, none⟩))).run Try.prog W = .ok (PK6 e.1) W :=
  agg_load (n := 17) (fun w => by kernel_rfl) (fun w => by kernel_rfl) (cpN_length _ _ _) (CellsAt.fst (ys := [Value.int .i64 e.2]) h)
theorem ld_bx6 {W : World} {b : Nat} {k : Bs} (h : W.heap[b]? = some (.cells (cp6 (bytN 16 k) k.length).toArray 39)) : (Instr.loadAt 39 (.pointer (some ⟨b, 0, none⟩))).run Try.prog W = .ok (PK6 k) W :=
  agg_load (n := 17) (fun w => by kernel_rfl) (fun w => by kernel_rfl) (cpN_length _ _ _) (CellsAt.of_blk h)
theorem ld_en6 {W : World} {g o : Nat} {e : Ent} (h : CellsAt W g o (ec6 e)) : (Instr.loadAt 51 (.pointer (some ⟨g, o, none⟩))).run Try.prog W = .ok (.agg (ec6 e).toArray) W :=
  agg_load (n := 18) (fun w => by kernel_rfl) (fun w => by kernel_rfl) (ec6_len _) h
theorem ec6_v (e : Ent) : (ec6 e)[17]? = some (.int .i64 e.2) := by
  rw [ec6_eq, List.getElem?_append_right (by rw [cpN_length]; exact Nat.le_refl _), cpN_length]
  rfl
theorem ec6_n (e : Ent) : (ec6 e)[16]? = some (.int .i64 e.1.length) := by
  rw [ec6_eq, List.getElem?_append_left (by rw [cpN_length]; decide)]
  have := cp6_at (bytN 16 e.1) e.1.length
  rwa [bytN_length] at this
end Go.Proofs.Ytenahbdopgmpfaa
