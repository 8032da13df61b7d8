/-
  Bytes in blocks of a set; worlds that part in a set of blocks alone; Copied of the program.
-/
import Derived.Test.YtbaeogoojpngbaaVa1
namespace Go.Proofs.Ytbaeogoojpngbaa
open Go Go.RowKit
set_option linter.unusedVariables false
set_option linter.unusedSimpArgs false

/-- Bytes, with room, in a block of S. -/
structure BS (S : Nat → Prop) (w : World) (v : Value) (zs : List Int) : Prop where
  row : RowC w v zs
  loc : zs.length = 0 ∨ ∃ b off n k, v = .slice (some ⟨b, off, none⟩) n k ∧ S b
/-- From A to B nothing is turned but blocks of O; there may be new ones. -/
structure Sep (O : Nat → Prop) (A B : World) : Prop where
  os : B.os = A.os
  tape : B.tape = A.tape
  output : B.output = A.output
  size : A.heap.size ≤ B.heap.size
  same : ∀ b, b < A.heap.size → ¬ O b → B.heap[b]? = A.heap[b]?

theorem Sep.refl (O : Nat → Prop) (A : World) : Sep O A A := ⟨rfl, rfl, rfl, Nat.le_refl _, fun _ _ _ => rfl⟩
theorem Sep.trans {O : Nat → Prop} {A B C : World} (h : Sep O A B) (g : Sep O B C) : Sep O A C :=
  ⟨g.os.trans h.os, g.tape.trans h.tape, g.output.trans h.output, Nat.le_trans h.size g.size, fun b hb hO => (g.same b (Nat.lt_of_lt_of_le hb h.size) hO).trans (h.same b hb hO)⟩
theorem Sep.mono {O O' : Nat → Prop} {A B : World} (h : Sep O A B) (hO : ∀ b, b < A.heap.size → O b → O' b) : Sep O' A B :=
  ⟨h.os, h.tape, h.output, h.size, fun b hb hn => h.same b hb (fun ho => hn (hO b hb ho))⟩
theorem Sep.of_below {O : Nat → Prop} {A B : World} (h : Below A.heap.size A B) : Sep O A B := ⟨h.os, h.tape, h.output, h.size, fun b hb _ => h.block b hb⟩
theorem Sep.of_below' {n : Nat} {A B : World} (h : Below n A B) : Sep (fun b => n ≤ b) A B := ⟨h.os, h.tape, h.output, h.size, fun b hb hn => h.block b (by omega)⟩
theorem Sep.of_only {g : Nat} {O : Nat → Prop} {A B : World} (h : Only g A B) (hg : O g) : Sep O A B :=
  ⟨h.os, h.tape, h.output, by rw [h.size]; exact Nat.le_refl _, fun b hb hn => h.other b (fun e => hn (e ▸ hg))⟩
theorem Sep.drew {O : Nat → Prop} {A B : World} (h : Sep O A B) : Sep O A B.drew := ⟨h.os, h.tape, h.output, h.size, h.same⟩
theorem Sep.alloc {O : Nat → Prop} {A B : World} (h : Sep O A B) (o : Obj) : Sep O A (B.alloc o) := h.trans (.of_below ((Below.refl _ B).alloc (Nat.le_refl _) o))
theorem Sep.below {O : Nat → Prop} {A B : World} (h : Sep O A B) {n : Nat} (hn : n ≤ A.heap.size) (hO : ∀ b, b < n → ¬ O b) : Below n A B :=
  ⟨h.os, h.tape, h.output, h.size, fun b hb => h.same b (by omega) (hO b hb)⟩
theorem Sep.blk {O : Nat → Prop} {A B : World} (h : Sep O A B) {b : Nat} {o : Obj} (hb : A.heap[b]? = some o) (hO : ¬ O b) : B.heap[b]? = some o :=
  (h.same b (Array.getElem?_eq_some_iff.1 hb).1 hO).trans hb
/-- Over two steps: what the second one turns is O's or new. -/
theorem Sep.then {O O' : Nat → Prop} {A B C : World} (h : Sep O A B) (g : Sep O' B C) (hO : ∀ b, O' b → O b ∨ A.heap.size ≤ b) : Sep O A C :=
  ⟨g.os.trans h.os, g.tape.trans h.tape, g.output.trans h.output, Nat.le_trans h.size g.size, fun b hb hn => (g.same b (Nat.lt_of_lt_of_le hb h.size) (fun ho => by rcases hO b ho with h1 | h1; exact hn h1; omega)).trans (h.same b hb hn)⟩
theorem Sep.up {O : Nat → Prop} {A B C : World} (h : Sep O A B) (g : Below B.heap.size B C) : Sep O A C := h.trans (.of_below g)

theorem row_of_sep {S O : Nat → Prop} {A B : World} {v : Value} {zs : List Int} (h : RowC A v zs) (hl : zs.length = 0 ∨ ∃ b off n k, v = .slice (some ⟨b, off, none⟩) n k ∧ S b) (hs : Sep O A B) (hO : ∀ b, S b → ¬ O b) : RowC B v zs := by
  obtain ⟨hf, hle, a, cap, rfl, hc, hz⟩ := h
  refine ⟨hf, hle, a, cap, rfl, hc, ?_⟩
  rcases hz with hz | ⟨b, off, rfl, hlt, hcell⟩
  · exact .inl hz
  · rcases hl with hl | ⟨b', off', n, k, e, hS⟩
    · exact .inl hl
    · cases e
      have hb := hs.same b hlt (hO b hS)
      exact .inr ⟨b, off, rfl, Nat.lt_of_lt_of_le hlt hs.size, fun j hj => by rw [← hcell j hj]; simp [World.cell?, hb]⟩
theorem BS.sep {S O : Nat → Prop} {A B : World} {v : Value} {zs : List Int} (h : BS S A v zs) (hs : Sep O A B) (hO : ∀ b, S b → ¬ O b) : BS S B v zs := ⟨row_of_sep h.row h.loc hs hO, h.loc⟩
theorem BS.mono {S S' : Nat → Prop} {A : World} {v : Value} {zs : List Int} (h : BS S A v zs) (hS : ∀ b, b < A.heap.size → S b → S' b) : BS S' A v zs := by
  refine ⟨h.row, ?_⟩
  rcases h.loc with hl | ⟨b, off, n, k, rfl, hs⟩
  · exact .inl hl
  · obtain ⟨_, _, a, cap, e, _, hz⟩ := h.row
    cases e
    rcases hz with hz | ⟨b', off', e, hlt, _⟩
    · exact .inl hz
    · cases e
      exact .inr ⟨b, off, _, _, rfl, hS b hlt hs⟩
theorem BS.on {S : Nat → Prop} {A B : World} {v : Value} {zs : List Int} (h : BS S A v zs) (hb : Below A.heap.size A B) : BS S B v zs := ⟨h.row.on hb, h.loc⟩
theorem BS.bytes {S : Nat → Prop} {A : World} {v : Value} {zs : List Int} (h : BS S A v zs) : BytesAt A.heap.size A v zs := h.row.bytes
theorem BS.of_row {w : World} {v : Value} {zs : List Int} (h : RowC w v zs) : BS (fun b => b < w.heap.size) w v zs := by
  refine ⟨h, ?_⟩
  obtain ⟨_, _, a, cap, rfl, _, hz⟩ := h
  rcases hz with hz | ⟨b, off, rfl, hlt, _⟩
  · exact .inl hz
  · exact .inr ⟨b, off, _, _, rfl, hlt⟩
theorem RowC.empty (w : World) : RowC w (.slice none 0 0) [] := ⟨fun z hz => by simp at hz, by simp, _, _, rfl, Nat.le_refl _, .inl rfl⟩
theorem OB.row {base : Nat} {w wx : World} {v : Value} {zs : List Int} (h : OB base w wx v zs) (hf : Fit zs) (hl : zs.length ≤ 140737488351232) : BS (fun b => base ≤ b) wx v zs := by
  have hbv : bytesV zs = zs.map (fun z => Value.int .u8 z) := rfl
  rcases h.own.2 with ⟨rfl, h0⟩ | ⟨g, cap, cur, rfl, hb, hg, hn, _⟩
  · obtain rfl : zs = [] := List.length_eq_zero_iff.1 h0
    exact ⟨.empty _, .inl rfl⟩
  · refine ⟨⟨hf, hl, _, cap, rfl, hn, .inr ⟨g, 0, rfl, (Array.getElem?_eq_some_iff.1 hg).1, fun j hj => ?_⟩⟩, .inr ⟨g, 0, _, _, rfl, hb⟩⟩
    have := h.own.cells (g := g) rfl j (.int .u8 (zs[j]?.getD 0)) (by rw [hbv, List.getElem?_map]; simp [hj])
    rw [Go.WideShapes.add_plain] at this
    exact this
theorem OB.nil (w : World) (base : Nat) : OB base w w (.slice none 0 0) [] := ⟨⟨rfl, .inl ⟨rfl, rfl⟩⟩, Below.refl _ _⟩
def lenV : Value → Nat
  | .slice _ n _ => n
  | _ => 0
theorem RowC.lenV {w : World} {v : Value} {zs : List Int} (h : RowC w v zs) : lenV v = zs.length := by
  obtain ⟨_, _, a, cap, rfl, _⟩ := h
  rfl
theorem OB.slc {base : Nat} {w wx : World} {v : Value} {zs : List Int} (h : OB base w wx v zs) : ∃ a cap, v = .slice a zs.length cap := by
  rcases h.own.2 with ⟨rfl, h0⟩ | ⟨g, cap, cur, rfl, _⟩
  · rw [h0]; exact ⟨_, _, rfl⟩
  · exact ⟨_, _, rfl⟩

theorem cut_front {S : Nat → Prop} {w : World} {v : Value} {zs : List Int} (h : BS S w v zs) (h0 : 0 < zs.length) (n : Nat) (hn : n ≤ zs.length) :
    ∃ u, (∀ W, (Instr.sliceAt 26 v none (some (.int .i64 n)) none).run Try.prog W = .ok u W) ∧ BS S w u (zs.take n) := by
  obtain ⟨b, off, cap, rfl, hc, hlt, hcell⟩ := h.row.some h0
  have hlen := h.row.len
  have e : (zs.take n).length = n := by rw [List.length_take]; omega
  refine ⟨.slice (some ⟨b, off, none⟩) n cap, fun W => ?_, ⟨⟨fun z hz => h.row.fit z (List.mem_of_mem_take hz), by omega, _, cap, by rw [e], by omega, .inr ⟨b, off, rfl, hlt, fun j hj => ?_⟩⟩, ?_⟩⟩
  · have i1 : n ≤ cap := by omega
    simp [Instr.sliceAt, go_sem, i1]
  · rw [e] at hj
    rw [hcell j (by omega), gz, List.getElem?_take, if_pos hj]
  · rcases h.loc with hl | ⟨b', off', n', k', e', hS⟩
    · omega
    · cases e'
      exact .inr ⟨b, off, _, _, rfl, hS⟩
theorem cut_rest {S : Nat → Prop} {w : World} {v : Value} {zs : List Int} (h : BS S w v zs) (h0 : 0 < zs.length) (n : Nat) (hn : n ≤ zs.length) :
    ∃ u, (∀ W, (Instr.sliceAt 26 v (some (.int .i64 n)) none none).run Try.prog W = .ok u W) ∧ BS S w u (zs.drop n) := by
  obtain ⟨b, off, cap, rfl, hc, hlt, hcell⟩ := h.row.some h0
  have hlen := h.row.len
  have hS : S b := by
    rcases h.loc with hl | ⟨b', off', n', k', e', hS⟩
    · omega
    · cases e'
      exact hS
  have hr : RowS w (.slice (some ⟨b, off, none⟩) zs.length cap) zs b off cap := ⟨rfl, hc, hlt, hcell, h.row.fit, hlen⟩
  refine ⟨restV b off zs.length cap n, fun W => ?_, ⟨(hr.rest n hn).row, .inr ⟨b, nxt off cap n, _, _, restV_eq .., hS⟩⟩⟩
  unfold restV
  by_cases e : cap = n
  · subst e
    have e2 : zs.length = cap := by omega
    simp [Instr.sliceAt, go_sem, e2]
  · have i1 : n ≤ zs.length := hn
    have i2 : zs.length ≤ cap := hc
    have i3 : n < cap := by omega
    rw [if_neg e]
    simp [Instr.sliceAt, go_sem, i1, i2, i3, e]

theorem pad4_ge (l m : List Int) (h : pad4 l = m) : l.length ≤ m.length := by rw [← h, pad4]; simp
theorem RowC.cons {w : World} {v : Value} {zs : List Int} (h : RowC w v zs) : BS (fun b => b < w.heap.size) w v zs := BS.of_row h

end Go.Proofs.Ytbaeogoojpngbaa
