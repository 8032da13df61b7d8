/-
  Regions that draw, by hand: operations that are guarded, and small ones.
  Options, plainly: the first one, what is copied; first of the program.
  Bytes in blocks of a set; worlds that part in a set of blocks alone; Copied of the program.
-/
import Derived.Test.YtpgnnplpcalbbaaGreatFold05
set_option linter.unusedVariables false
set_option linter.unusedSimpArgs false
namespace Go.Proofs.YtpgnnplpcalbbaaGreat
open Go Go.RowKit
theorem take_w {d : Option Nat} {P : Program} {ops : Array Oper} {Q : Exit → Act → World → Prop} {md : Region.Mode} {S : World → Prop} {i : Nat} {o : Oper} {v : Value} {fuel : Nat} {listed : Array Bool} {a : Act} {w : World} (hi : ops[i]? = some o) (hw : Region.wanted o (yielded ops a.tmps) = true) (hd : o.dst = d)
    (hs : Region.noSelect ops = true) (hf : Region.free md ops listed i = true) (hr : (Region.ready md ops listed).contains i = true) (hQ : ∀ c (a : Act) d v w, Q (.panic c) (a.put d v) w → Q (.panic c) a w)
    (hy : ∀ w, S w → (execOp a.eval o).run P w = .ok (.value v) w) (hS : S w) (h : wpAnyH P md ops Q S fuel (listed.setIfInBounds i true) (a.put d v) w) : wpAnyH P md ops Q S (fuel + 1) listed a w :=
  wpAnyH_take hi hs hf hr (fun c a w q => hQ c a _ _ w q) (.inl ⟨hw, hy⟩) hS (hd ▸ h)
theorem take_un {d : Option Nat} {P : Program} {ops : Array Oper} {Q : Exit → Act → World → Prop} {md : Region.Mode} {S : World → Prop} {i : Nat} {o : Oper} {fuel : Nat} {listed : Array Bool} {a : Act} {w : World} (hi : ops[i]? = some o) (hw : Region.wanted o (yielded ops a.tmps) = false) (hd : o.dst = d)
    (hs : Region.noSelect ops = true) (hf : Region.free md ops listed i = true) (hr : (Region.ready md ops listed).contains i = true) (hQ : ∀ c (a : Act) d v w, Q (.panic c) (a.put d v) w → Q (.panic c) a w)
    (hS : S w) (h : wpAnyH P md ops Q S fuel (listed.setIfInBounds i true) (a.put d undef) w) : wpAnyH P md ops Q S (fuel + 1) listed a w :=
  wpAnyH_take hi hs hf hr (fun c a w q => hQ c a _ _ w q) (.inr ⟨hw, rfl⟩) hS (hd ▸ h)
theorem all_w {P : Program} {ops : Array Oper} {Q : Exit → Act → World → Prop} {md : Region.Mode} {S : World → Prop} {i : Nat} {o : Oper} {fuel : Nat} {listed : Array Bool} {a : Act} {w : World} (hr : Region.ready md ops listed = [i]) (hi : ops[i]? = some o) (hw : Region.wanted o (yielded ops a.tmps) = true)
    (h : o.wp P a w (fun a' w' => S w' ∧ wpAnyH P md ops Q S fuel (listed.setIfInBounds i true) a' w') Q) : wpAnyH P md ops Q S (fuel + 1) listed a w := by
  refine wpAnyH_all (rs := [i]) hr (by simp) ?_
  intro j hj
  obtain rfl : j = i := by simpa using hj
  unfold wpOp
  rw [hi]
  simp only
  rw [if_pos hw]
  exact .inl h
theorem all_un {P : Program} {ops : Array Oper} {Q : Exit → Act → World → Prop} {md : Region.Mode} {S : World → Prop} {i : Nat} {o : Oper} {fuel : Nat} {listed : Array Bool} {a : Act} {w : World} (hr : Region.ready md ops listed = [i]) (hi : ops[i]? = some o) (hw : Region.wanted o (yielded ops a.tmps) = false)
    (h : S w ∧ wpAnyH P md ops Q S fuel (listed.setIfInBounds i true) (a.put o.dst undef) w) : wpAnyH P md ops Q S (fuel + 1) listed a w := by
  refine wpAnyH_all (rs := [i]) hr (by simp) ?_
  intro j hj
  obtain rfl : j = i := by simpa using hj
  unfold wpOp
  rw [hi]
  simp only
  rw [if_neg (by rw [hw]; simp)]
  exact h
theorem ex_len {o : Oper} {a : Act} {W : World} (p : Operand) (hop : o.op = Op.call { callee := .builtin .len, args := #[p], argTypes := #[25] }) {x : Option Addr} {n m : Nat} (hp : a.eval p = .slice x n m) :
    (execOp a.eval o).run Tryz.prog W = .ok (.value (.int .i64 n)) W := by
  generalize a.eval = ev at *
  simp [execOp, hop, hp, go_sem]
theorem ex_pick {P : Program} {o : Oper} {a : Act} {W : World} (p q r : Operand) (hop : o.op = Op.pick p q r) {b : Bool} {v : Value} (hp : a.eval p = .bool b) (hv : (if b then a.eval q else a.eval r) = v) : (execOp a.eval o).run P W = .ok (.value v) W := by
  subst hv
  generalize a.eval = ev at *
  cases b <;> simp [execOp, hop, hp, go_sem]
theorem ex_neq16 {o : Oper} {a : Act} {W : World} (p : Operand) (c : Int) {t : TypeId} (hop : o.op = Op.binOp .neq 22 p (.const (.int .u16 c)) t) {x : Int} (hp : a.eval p = .int .u16 x) : (execOp a.eval o).run Tryz.prog W = .ok (.value (.bool (x != c))) W := by
  have hc : a.eval (.const (.int .u16 c)) = .int .u16 c := rfl
  generalize a.eval = ev at *
  simp [execOp, hop, hp, hc, go_sem]
theorem ex_eql16 {o : Oper} {a : Act} {W : World} (p : Operand) (c : Int) {t : TypeId} (hop : o.op = Op.binOp .eql 22 p (.const (.int .u16 c)) t) {x : Int} (hp : a.eval p = .int .u16 x) : (execOp a.eval o).run Tryz.prog W = .ok (.value (.bool (x == c))) W := by
  have hc : a.eval (.const (.int .u16 c)) = .int .u16 c := rfl
  generalize a.eval = ev at *
  simp [execOp, hop, hp, hc, go_sem]
theorem ex_eqlE {o : Oper} {a : Act} {W : World} (p : Operand) (c : Int) {t : TypeId} (hop : o.op = Op.binOp .eql 37 p (.const (.int .i64 c)) t) {x : Int} (hp : a.eval p = .int .i64 x) : (execOp a.eval o).run Tryz.prog W = .ok (.value (.bool (x == c))) W := by
  have hc : a.eval (.const (.int .i64 c)) = .int .i64 c := rfl
  generalize a.eval = ev at *
  simp [execOp, hop, hp, hc, go_sem]
theorem ex_neqE {o : Oper} {a : Act} {W : World} (p : Operand) (c : Int) {t : TypeId} (hop : o.op = Op.binOp .neq 37 p (.const (.int .i64 c)) t) {x : Int} (hp : a.eval p = .int .i64 x) : (execOp a.eval o).run Tryz.prog W = .ok (.value (.bool (x != c))) W := by
  have hc : a.eval (.const (.int .i64 c)) = .int .i64 c := rfl
  generalize a.eval = ev at *
  simp [execOp, hop, hp, hc, go_sem]
theorem ex_add {o : Oper} {a : Act} {W : World} (p q : Operand) {t : TypeId} (hop : o.op = Op.binOp .add 3 p q t) {x y : Int} (hp : a.eval p = .int .i64 x) (hq : a.eval q = .int .i64 y) (hb : -9223372036854775808 ≤ x + y ∧ x + y ≤ 9223372036854775807) : (execOp a.eval o).run Tryz.prog W = .ok (.value (.int .i64 (x + y))) W := by
  have e := wrapi64 (x + y) hb
  generalize a.eval = ev at *
  simp [execOp, hop, hp, hq, go_sem, e]
theorem ex_neqI {o : Oper} {a : Act} {W : World} (p q : Operand) {t : TypeId} (hop : o.op = Op.binOp .neq 3 p q t) {x y : Int} (hp : a.eval p = .int .i64 x) (hq : a.eval q = .int .i64 y) : (execOp a.eval o).run Tryz.prog W = .ok (.value (.bool (x != y))) W := by
  generalize a.eval = ev at *
  simp [execOp, hop, hp, hq, go_sem]
theorem ex_eqlI {o : Oper} {a : Act} {W : World} (p q : Operand) {t : TypeId} (hop : o.op = Op.binOp .eql 3 p q t) {x y : Int} (hp : a.eval p = .int .i64 x) (hq : a.eval q = .int .i64 y) : (execOp a.eval o).run Tryz.prog W = .ok (.value (.bool (x == y))) W := by
  generalize a.eval = ev at *
  simp [execOp, hop, hp, hq, go_sem]
end Go.Proofs.YtpgnnplpcalbbaaGreat
namespace Go.Proofs.YtpgnnplpcalbbaaGreat
open Go Go.RowKit
def firstN : List Int → Nat
  | [] => 0
  | x :: r => if x = 0 then 0 else if x = 1 then 1 else match r with
    | [] => 0
    | y :: _ => if y < 2 ∨ ((r.length : Nat) : Int) + 1 < y then 0 else y.toNat
theorem firstN_le (l : List Int) : firstN l ≤ l.length := by
  cases l with
  | nil => simp [firstN]
  | cons x r =>
    simp only [firstN]
    split
    · simp
    · split
      · simp
      · cases r with
        | nil => simp
        | cons y r =>
          simp only
          split
          · simp
          · next h => simp only [List.length_cons] at *; omega
theorem firstN_byte (l : List Int) (h : Fit l) : firstN l ≤ 255 := by
  cases l with
  | nil => simp [firstN]
  | cons x r =>
    simp only [firstN]
    split
    · simp
    · split
      · simp
      · cases r with
        | nil => simp
        | cons y r =>
          simp only
          split
          · simp
          · have := h y (by simp); omega
def optsN : Nat → List Int → List Int
  | 0, _ => []
  | n + 1, l => if firstN l = 0 then [] else (if 128 ≤ gz l 0 then l.take (firstN l) else []) ++ optsN n (l.drop (firstN l))
theorem optsN_fuel : ∀ (n m : Nat) (l : List Int), l.length ≤ n → l.length ≤ m → optsN n l = optsN m l
  | 0, 0, l, _, _ => rfl
  | 0, m + 1, l, h, _ => by
    obtain rfl : l = [] := List.length_eq_zero_iff.1 (by omega)
    simp [optsN, firstN]
  | n + 1, 0, l, _, h => by
    obtain rfl : l = [] := List.length_eq_zero_iff.1 (by omega)
    simp [optsN, firstN]
  | n + 1, m + 1, l, hn, hm => by
    unfold optsN
    by_cases h : firstN l = 0
    · rw [if_pos h, if_pos h]
    · rw [if_neg h, if_neg h, optsN_fuel n m (l.drop (firstN l)) (by simp; omega) (by simp; omega)]
def optsC (l : List Int) : List Int := optsN l.length l
theorem optsC_end (l : List Int) (h : firstN l = 0) : optsC l = [] := by
  unfold optsC
  cases hl : l.length with
  | zero => rfl
  | succ n => unfold optsN; rw [if_pos h]
theorem optsC_step (l : List Int) (h : firstN l ≠ 0) : optsC l = (if 128 ≤ gz l 0 then l.take (firstN l) else []) ++ optsC (l.drop (firstN l)) := by
  unfold optsC
  cases hl : l.length with
  | zero => have := firstN_le l; omega
  | succ n =>
    rw [optsN, if_neg h]
    rw [optsN_fuel n (l.drop (firstN l)).length _ (by simp; omega) (Nat.le_refl _)]
theorem optsN_length : ∀ (n : Nat) (l : List Int), (optsN n l).length ≤ l.length
  | 0, l => by simp [optsN]
  | n + 1, l => by
    unfold optsN
    split
    · simp
    · have := optsN_length n (l.drop (firstN l))
      have h2 := firstN_le l
      simp only [List.length_append, List.length_drop] at *
      split
      · simp only [List.length_take]; omega
      · simp only [List.length_nil]; omega
theorem optsC_length (l : List Int) : (optsC l).length ≤ l.length := optsN_length _ _
theorem optsN_fit : ∀ (n : Nat) (l : List Int), Fit l → Fit (optsN n l)
  | 0, l, _ => by intro z hz; simp [optsN] at hz
  | n + 1, l, h => by
    unfold optsN
    split
    · intro z hz; simp at hz
    · intro z hz
      rcases List.mem_append.1 hz with hz | hz
      · split at hz
        · exact h z (List.mem_of_mem_take hz)
        · simp at hz
      · exact optsN_fit n _ (fun z hz => h z (List.mem_of_mem_drop hz)) z hz
/-- Bytes 0 up to a multiple of 4. -/
def pad4 (l : List Int) : List Int := l ++ List.replicate ((4 - l.length % 4) % 4) 0
theorem pad4_done (l : List Int) (h : l.length % 4 = 0) : pad4 l = l := by simp [pad4, h]
theorem pad4_step (l : List Int) (h : l.length % 4 ≠ 0) : pad4 (l ++ [0]) = pad4 l := by
  unfold pad4
  rw [List.append_assoc]
  congr 1
  have : (4 - l.length % 4) % 4 = (4 - (l ++ [0]).length % 4) % 4 + 1 := by simp only [List.length_append, List.length_cons, List.length_nil]; omega
  rw [this, List.replicate_succ]
  rfl
theorem pad4_length (l : List Int) : (pad4 l).length % 4 = 0 ∧ (pad4 l).length < l.length + 4 := by
  unfold pad4
  simp only [List.length_append, List.length_replicate]
  omega
def copiedL (l : List Int) : List Int := pad4 (optsC l)
theorem copiedL_length (l : List Int) (h : l.length ≤ 40) : (copiedL l).length ≤ 40 ∧ (copiedL l).length % 4 = 0 := by
  have h1 := optsC_length l
  have h2 := pad4_length (optsC l)
  unfold copiedL
  omega
theorem copiedL_fit (l : List Int) (h : Fit l) : Fit (copiedL l) := by
  intro z hz
  unfold copiedL pad4 at hz
  rcases List.mem_append.1 hz with hz | hz
  · exact optsN_fit _ _ h z hz
  · rw [(List.mem_replicate.1 hz).2]; omega
end Go.Proofs.YtpgnnplpcalbbaaGreat
namespace Go.Proofs.YtpgnnplpcalbbaaGreat
open Go Go.RowKit
/-- Bytes, with room, in a block of S. -/
structure BS (S : Nat → Prop) (w : World) (v : Value) (zs : List Int) : Prop where
  row : RowC w v zs
  loc : zs.length = 0 ∨ ∃ b off n k, v = .slice (some ⟨b, off, none⟩) n k ∧ S b
/-- From A to B nothing is turned but blocks of O; there may be new ones. -/
structure Sep (O : Nat → Prop) (A B : World) : Prop where
  os : B.os = A.os
  tape : B.tape = A.tape
  output : B.output = A.output
  size : A.heap.size ≤ B.heap.size
  same : ∀ b, b < A.heap.size → ¬ O b → B.heap[b]? = A.heap[b]?
theorem Sep.refl (O : Nat → Prop) (A : World) : Sep O A A := ⟨rfl, rfl, rfl, Nat.le_refl _, fun _ _ _ => rfl⟩
theorem Sep.trans {O : Nat → Prop} {A B C : World} (h : Sep O A B) (g : Sep O B C) : Sep O A C :=
  ⟨g.os.trans h.os, g.tape.trans h.tape, g.output.trans h.output, Nat.le_trans h.size g.size, fun b hb hO => (g.same b (Nat.lt_of_lt_of_le hb h.size) hO).trans (h.same b hb hO)⟩
theorem Sep.mono {O O' : Nat → Prop} {A B : World} (h : Sep O A B) (hO : ∀ b, b < A.heap.size → O b → O' b) : Sep O' A B :=
  ⟨h.os, h.tape, h.output, h.size, fun b hb hn => h.same b hb (fun ho => hn (hO b hb ho))⟩
theorem Sep.of_below {O : Nat → Prop} {A B : World} (h : Below A.heap.size A B) : Sep O A B := ⟨h.os, h.tape, h.output, h.size, fun b hb _ => h.block b hb⟩
theorem Sep.of_below' {n : Nat} {A B : World} (h : Below n A B) : Sep (fun b => n ≤ b) A B := ⟨h.os, h.tape, h.output, h.size, fun b hb hn => h.block b (by omega)⟩
theorem Sep.of_only {g : Nat} {O : Nat → Prop} {A B : World} (h : Only g A B) (hg : O g) : Sep O A B :=
  ⟨h.os, h.tape, h.output, by rw [h.size]; exact Nat.le_refl _, fun b hb hn => h.other b (fun e => hn (e ▸ hg))⟩
theorem Sep.drew {O : Nat → Prop} {A B : World} (h : Sep O A B) : Sep O A B.drew := ⟨h.os, h.tape, h.output, h.size, h.same⟩
theorem Sep.alloc {O : Nat → Prop} {A B : World} (h : Sep O A B) (o : Obj) : Sep O A (B.alloc o) := h.trans (.of_below ((Below.refl _ B).alloc (Nat.le_refl _) o))
theorem Sep.below {O : Nat → Prop} {A B : World} (h : Sep O A B) {n : Nat} (hn : n ≤ A.heap.size) (hO : ∀ b, b < n → ¬ O b) : Below n A B :=
  ⟨h.os, h.tape, h.output, h.size, fun b hb => h.same b (by omega) (hO b hb)⟩
theorem Sep.blk {O : Nat → Prop} {A B : World} (h : Sep O A B) {b : Nat} {o : Obj} (hb : A.heap[b]? = some o) (hO : ¬ O b) : B.heap[b]? = some o :=
  (h.same b (Array.getElem?_eq_some_iff.1 hb).1 hO).trans hb
/-- Over two steps: what the second one turns is O's or new. -/
theorem Sep.then {O O' : Nat → Prop} {A B C : World} (h : Sep O A B) (g : Sep O' B C) (hO : ∀ b, O' b → O b ∨ A.heap.size ≤ b) : Sep O A C :=
  ⟨g.os.trans h.os, g.tape.trans h.tape, g.output.trans h.output, Nat.le_trans h.size g.size, fun b hb hn => (g.same b (Nat.lt_of_lt_of_le hb h.size) (fun ho => by rcases hO b ho with h1 | h1; exact hn h1; omega)).trans (h.same b hb hn)⟩
theorem Sep.up {O : Nat → Prop} {A B C : World} (h : Sep O A B) (g : Below B.heap.size B C) : Sep O A C := h.trans (.of_below g)
theorem row_of_sep {S O : Nat → Prop} {A B : World} {v : Value} {zs : List Int} (h : RowC A v zs) (hl : zs.length = 0 ∨ ∃ b off n k, v = .slice (some ⟨b, off, none⟩) n k ∧ S b) (hs : Sep O A B) (hO : ∀ b, S b → ¬ O b) : RowC B v zs := by
  obtain ⟨hf, hle, a, cap, rfl, hc, hz⟩ := h
  refine ⟨hf, hle, a, cap, rfl, hc, ?_⟩
  rcases hz with hz | ⟨b, off, rfl, hlt, hcell⟩
  · exact .inl hz
  · rcases hl with hl | ⟨b', off', n, k, e, hS⟩
    · exact .inl hl
    · cases e
      have hb := hs.same b hlt (hO b hS)
      exact .inr ⟨b, off, rfl, Nat.lt_of_lt_of_le hlt hs.size, fun j hj => by rw [← hcell j hj]; simp [World.cell?, hb]⟩
theorem BS.sep {S O : Nat → Prop} {A B : World} {v : Value} {zs : List Int} (h : BS S A v zs) (hs : Sep O A B) (hO : ∀ b, S b → ¬ O b) : BS S B v zs := ⟨row_of_sep h.row h.loc hs hO, h.loc⟩
theorem BS.mono {S S' : Nat → Prop} {A : World} {v : Value} {zs : List Int} (h : BS S A v zs) (hS : ∀ b, b < A.heap.size → S b → S' b) : BS S' A v zs := by
  refine ⟨h.row, ?_⟩
  rcases h.loc with hl | ⟨b, off, n, k, rfl, hs⟩
  · exact .inl hl
  · obtain ⟨_, _, a, cap, e, _, hz⟩ := h.row
    cases e
    rcases hz with hz | ⟨b', off', e, hlt, _⟩
    · exact .inl hz
    · cases e
      exact .inr ⟨b, off, _, _, rfl, hS b hlt hs⟩
theorem BS.on {S : Nat → Prop} {A B : World} {v : Value} {zs : List Int} (h : BS S A v zs) (hb : Below A.heap.size A B) : BS S B v zs := ⟨h.row.on hb, h.loc⟩
theorem BS.bytes {S : Nat → Prop} {A : World} {v : Value} {zs : List Int} (h : BS S A v zs) : BytesAt A.heap.size A v zs := h.row.bytes
theorem BS.of_row {w : World} {v : Value} {zs : List Int} (h : RowC w v zs) : BS (fun b => b < w.heap.size) w v zs := by
  refine ⟨h, ?_⟩
  obtain ⟨_, _, a, cap, rfl, _, hz⟩ := h
  rcases hz with hz | ⟨b, off, rfl, hlt, _⟩
  · exact .inl hz
  · exact .inr ⟨b, off, _, _, rfl, hlt⟩
theorem RowC.empty (w : World) : RowC w (.slice none 0 0) [] := ⟨fun z hz => by simp at hz, by simp, _, _, rfl, Nat.le_refl _, .inl rfl⟩
theorem OB.row {base : Nat} {w wx : World} {v : Value} {zs : List Int} (h : OB base w wx v zs) (hf : Fit zs) (hl : zs.length ≤ 140737488351232) : BS (fun b => base ≤ b) wx v zs := by
  have hbv : bytesV zs = zs.map (fun z => Value.int .u8 z) := rfl
  rcases h.own.2 with ⟨rfl, h0⟩ | ⟨g, cap, cur, rfl, hb, hg, hn, _⟩
  · obtain rfl : zs = [] := List.length_eq_zero_iff.1 h0
    exact ⟨.empty _, .inl rfl⟩
  · refine ⟨⟨hf, hl, _, cap, rfl, hn, .inr ⟨g, 0, rfl, (Array.getElem?_eq_some_iff.1 hg).1, fun j hj => ?_⟩⟩, .inr ⟨g, 0, _, _, rfl, hb⟩⟩
    have := h.own.cells (g := g) rfl j (.int .u8 (zs[j]?.getD 0)) (by rw [hbv, List.getElem?_map]; simp [hj])
    rw [Go.WideShapes.add_plain] at this
    exact this
theorem OB.nil (w : World) (base : Nat) : OB base w w (.slice none 0 0) [] := ⟨⟨rfl, .inl ⟨rfl, rfl⟩⟩, Below.refl _ _⟩
def lenV : Value → Nat
  | .slice _ n _ => n
  | _ => 0
theorem RowC.lenV {w : World} {v : Value} {zs : List Int} (h : RowC w v zs) : lenV v = zs.length := by
  obtain ⟨_, _, a, cap, rfl, _⟩ := h
  rfl
theorem OB.slc {base : Nat} {w wx : World} {v : Value} {zs : List Int} (h : OB base w wx v zs) : ∃ a cap, v = .slice a zs.length cap := by
  rcases h.own.2 with ⟨rfl, h0⟩ | ⟨g, cap, cur, rfl, _⟩
  · rw [h0]; exact ⟨_, _, rfl⟩
  · exact ⟨_, _, rfl⟩
theorem cut_front {S : Nat → Prop} {w : World} {v : Value} {zs : List Int} (h : BS S w v zs) (h0 : 0 < zs.length) (n : Nat) (hn : n ≤ zs.length) :
    ∃ u, (∀ W, (Instr.sliceAt 25 v none (some (.int .i64 n)) none).run Tryz.prog W = .ok u W) ∧ BS S w u (zs.take n) := by
  obtain ⟨b, off, cap, rfl, hc, hlt, hcell⟩ := h.row.some h0
  have hlen := h.row.len
  have e : (zs.take n).length = n := by rw [List.length_take]; omega
  refine ⟨.slice (some ⟨b, off, none⟩) n cap, fun W => ?_, ⟨⟨fun z hz => h.row.fit z (List.mem_of_mem_take hz), by omega, _, cap, by rw [e], by omega, .inr ⟨b, off, rfl, hlt, fun j hj => ?_⟩⟩, ?_⟩⟩
  · have i1 : n ≤ cap := by omega
    simp [Instr.sliceAt, go_sem, i1]
  · rw [e] at hj
    rw [hcell j (by omega), gz, List.getElem?_take, if_pos hj]
  · rcases h.loc with hl | ⟨b', off', n', k', e', hS⟩
    · omega
    · cases e'
      exact .inr ⟨b, off, _, _, rfl, hS⟩
theorem cut_rest {S : Nat → Prop} {w : World} {v : Value} {zs : List Int} (h : BS S w v zs) (h0 : 0 < zs.length) (n : Nat) (hn : n ≤ zs.length) :
    ∃ u, (∀ W, (Instr.sliceAt 25 v (some (.int .i64 n)) none none).run Tryz.prog W = .ok u W) ∧ BS S w u (zs.drop n) := by
  obtain ⟨b, off, cap, rfl, hc, hlt, hcell⟩ := h.row.some h0
  have hlen := h.row.len
  have hS : S b := by
    rcases h.loc with hl | ⟨b', off', n', k', e', hS⟩
    · omega
    · cases e'
      exact hS
  have hr : RowS w (.slice (some ⟨b, off, none⟩) zs.length cap) zs b off cap := ⟨rfl, hc, hlt, hcell, h.row.fit, hlen⟩
  refine ⟨restV b off zs.length cap n, fun W => ?_, ⟨(hr.rest n hn).row, .inr ⟨b, nxt off cap n, _, _, restV_eq .., hS⟩⟩⟩
  unfold restV
  by_cases e : cap = n
  · subst e
    have e2 : zs.length = cap := by omega
    simp [Instr.sliceAt, go_sem, e2]
  · have i1 : n ≤ zs.length := hn
    have i2 : zs.length ≤ cap := hc
    have i3 : n < cap := by omega
    rw [if_neg e]
    simp [Instr.sliceAt, go_sem, i1, i2, i3, e]
theorem pad4_ge (l m : List Int) (h : pad4 l = m) : l.length ≤ m.length := by rw [← h, pad4]; simp
theorem RowC.cons {w : World} {v : Value} {zs : List Int} (h : RowC w v zs) : BS (fun b => b < w.heap.size) w v zs := BS.of_row h
end Go.Proofs.YtpgnnplpcalbbaaGreat
