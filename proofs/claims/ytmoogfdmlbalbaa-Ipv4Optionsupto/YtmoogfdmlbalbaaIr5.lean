/-
  datagram of package ipv4: the reader's box, the datagram's and the answer's.
-/
import Derived.Test.YtmoogfdmlbalbaaIr4
import Derived.Test.YtmoogfdmlbalbaaIr7
import Derived.Test.YtmoogfdmlbalbaaIp6
namespace Go.Proofs.Ytmoogfdmlbalbaa
open Go Go.RowKit
set_option linter.unusedVariables false
set_option linter.unusedSimpArgs false

def cV (tos id : Int) (df mf : Bool) (off ttl proto s0 s1 s2 s3 d0 d1 d2 d3 : Int) (so sb : Value) : List Value :=
  [.int .u8 tos, .int .u16 id, .bool df, .bool mf, .int .i64 off, .int .u8 ttl, .int .u8 proto, .int .u8 s0, .int .u8 s1, .int .u8 s2, .int .u8 s3, .int .u8 d0, .int .u8 d1, .int .u8 d2, .int .u8 d3, so, sb]
/-- The place behind n elements: at its very end the address stays. -/
def nxt (o cap n : Nat) : Nat := if cap = n then o else o + n
theorem restV_eq (b o len cap n : Nat) : restV b o len cap n = .slice (some ⟨b, nxt o cap n, none⟩) (len - n) (cap - n) := by
  unfold restV nxt
  split
  · next h => subst h; simp
  · rfl
theorem nxt_lt {o cap n : Nat} (h : n < cap) : nxt o cap n = o + n := by unfold nxt; rw [if_neg (by omega)]

structure DgW (w0 W : World) (R Q b o len cap : Nat) (tos size all : Int) (c : List Value) : Prop where
  rb : W.heap[R]? = some (.cells [.slice (some ⟨b, o, none⟩) len cap, .int .u8 tos, .int .i64 size, .int .i64 all].toArray 67)
  up : w0.heap.size ≤ R
  bel : Below w0.heap.size w0 W
  qb : W.heap[Q]? = some (.cells zeroC.toArray 27)
  vb : W.heap[Q + 1]? = some (.cells c.toArray 27)
  lt : R < Q
section
variable {w0 W W' : World} {R Q b o len cap : Nat} {tos size all : Int} {c : List Value}
theorem DgW.left (h : DgW w0 W R Q b o len cap tos size all c) (n : Nat) : DgW w0 (W.setCell ⟨R, 0, none⟩ (restV b o len cap n)) R Q b (nxt o cap n) (len - n) (cap - n) tos size all c := by
  have := h.lt
  refine ⟨?_, h.up, h.bel.setCell h.up _, blk_set_other h.qb (by omega) _ _, blk_set_other h.vb (by omega) _ _, h.lt⟩
  rw [blk_set h.rb, restV_eq]
  rfl
theorem DgW.drew (h : DgW w0 W R Q b o len cap tos size all c) : DgW w0 W.drew R Q b o len cap tos size all c := ⟨h.rb, h.up, h.bel.drew, h.qb, h.vb, h.lt⟩
theorem DgW.put (h : DgW w0 W R Q b o len cap tos size all c) (j : Nat) (v : Value) : DgW w0 (W.setCell ⟨Q + 1, j, none⟩ v) R Q b o len cap tos size all (c.set j v) := by
  have := h.lt
  have := h.up
  exact ⟨blk_set_other h.rb (by omega) _ _, h.up, h.bel.setCell (by simp; omega) _, blk_set_other h.qb (by omega) _ _, blk_set h.vb j v, h.lt⟩
theorem DgW.on (h : DgW w0 W R Q b o len cap tos size all c) (hb : Below W.heap.size W W') : DgW w0 W' R Q b o len cap tos size all c :=
  ⟨blk_on h.rb hb, h.up, h.bel.trans (hb.mono h.bel.size), blk_on h.qb hb, blk_on h.vb hb, h.lt⟩
theorem DgW.sets (h : DgW w0 W R Q b o len cap tos size all c) (p : Nat) (vs : List Value) : DgW w0 (W.setCells (Q + 1) p vs) R Q b o len cap tos size all (setsL c p vs) := by
  have hO : Only (Q + 1) W (W.setCells (Q + 1) p vs) := Only.sets _ _ _ (Only.refl _ _)
  have := h.lt
  have := h.up
  exact ⟨(hO.other R (by omega)).trans h.rb, h.up, h.bel.trans (hO.below (by omega)), (hO.other Q (by omega)).trans h.qb, blk_sets _ _ _ _ h.vb, h.lt⟩
theorem DgW.old (h : DgW w0 W R Q b o len cap tos size all c) {g p : Nat} {v : Value} (hg : g < w0.heap.size) (hv : w0.cell? ⟨g, p, none⟩ = some v) : W.cell? ⟨g, p, none⟩ = some v :=
  (h.bel.cell (p := ⟨g, p, none⟩) hg).trans hv
theorem DgW.octet (h : DgW w0 W R Q b o len cap tos size all c) (hb : b < w0.heap.size) (hn : 1 ≤ len) (hl : len ≤ cap) {z : Int} (k : w0.cell? ⟨b, o, none⟩ = some (.int .u8 z)) :
    Calls Try.prog 55 #[.pointer (some ⟨R, 0, none⟩)] W fun e w' => e = .returned (.int .u8 z) ∧ DgW w0 w' R Q b (nxt o cap 1) (len - 1) (cap - 1) tos size all c := by
  have := h.up
  refine (octet_calls R b o len cap z W (blk_cell h.rb rfl) (blk_open h.rb 0) hn hl (by omega) (h.old hb k)).mono ?_
  rintro e w' ⟨rfl, rfl⟩
  exact ⟨rfl, h.left 1⟩
theorem DgW.word (h : DgW w0 W R Q b o len cap tos size all c) (hb : b < w0.heap.size) (hn : 2 ≤ len) (hl : len ≤ cap) {x y : Int} (k0 : w0.cell? ⟨b, o, none⟩ = some (.int .u8 x)) (k1 : w0.cell? ⟨b, o + 1, none⟩ = some (.int .u8 y)) (fx : 0 ≤ x ∧ x < 256) (fy : 0 ≤ y ∧ y < 256) :
    Calls Try.prog 56 #[.pointer (some ⟨R, 0, none⟩)] W fun e w' => e = .returned (.int .u16 (x * 256 + y)) ∧ DgW w0 w' R Q b (nxt o cap 2) (len - 2) (cap - 2) tos size all c := by
  have := h.up
  refine (word_calls R b o len cap x y W (blk_cell h.rb rfl) (blk_open h.rb 0) hn hl (by omega) (h.old hb k0) (h.old hb k1) fx fy).mono ?_
  rintro e w' ⟨rfl, rfl⟩
  exact ⟨rfl, (h.left 2).drew⟩
theorem DgW.run (h : DgW w0 W R Q b o len cap tos size all c) (n : Nat) (hn : n ≤ len) (hl : len ≤ cap) :
    Calls Try.prog 58 #[.pointer (some ⟨R, 0, none⟩), .int .i64 n] W fun e w' => ∃ v, e = .returned v ∧ v = .slice (some ⟨b, o, none⟩) n cap ∧ DgW w0 w' R Q b (nxt o cap n) (len - n) (cap - n) tos size all c := by
  refine (run_calls R b o len cap n W (blk_cell h.rb rfl) (blk_open h.rb 0) hn hl).mono ?_
  rintro e w' ⟨rfl, rfl⟩
  exact ⟨_, rfl, rfl, h.left n⟩
theorem DgW.octetI {off i j : Nat} (h : DgW w0 W R Q b (off + i) (len - i) (cap - i) tos size all c) (hb : b < w0.heap.size) (hn : j ≤ len) (hl : len ≤ cap) (hc : j < cap) (hj : j = i + 1) {z : Int} (k : w0.cell? ⟨b, off + i, none⟩ = some (.int .u8 z)) :
    Calls Try.prog 55 #[.pointer (some ⟨R, 0, none⟩)] W fun e w' => e = .returned (.int .u8 z) ∧ DgW w0 w' R Q b (off + j) (len - j) (cap - j) tos size all c := by
  refine (h.octet hb (by omega) (by omega) k).mono ?_
  rintro e w' ⟨rfl, hS⟩
  rw [nxt_lt (by omega), show off + i + 1 = off + j by omega, show len - i - 1 = len - j by omega, show cap - i - 1 = cap - j by omega] at hS
  exact ⟨rfl, hS⟩
theorem DgW.wordI {off i j : Nat} (h : DgW w0 W R Q b (off + i) (len - i) (cap - i) tos size all c) (hb : b < w0.heap.size) (hn : j ≤ len) (hl : len ≤ cap) (hc : j < cap) (hj : j = i + 2) {x y : Int} (k0 : w0.cell? ⟨b, off + i, none⟩ = some (.int .u8 x)) (k1 : w0.cell? ⟨b, off + (i + 1), none⟩ = some (.int .u8 y)) (fx : 0 ≤ x ∧ x < 256) (fy : 0 ≤ y ∧ y < 256) :
    Calls Try.prog 56 #[.pointer (some ⟨R, 0, none⟩)] W fun e w' => e = .returned (.int .u16 (x * 256 + y)) ∧ DgW w0 w' R Q b (off + j) (len - j) (cap - j) tos size all c := by
  refine (h.word hb (by omega) (by omega) k0 k1 fx fy).mono ?_
  rintro e w' ⟨rfl, hS⟩
  rw [nxt_lt (by omega), show off + i + 2 = off + j by omega, show len - i - 2 = len - j by omega, show cap - i - 2 = cap - j by omega] at hS
  exact ⟨rfl, hS⟩
theorem DgW.runI {off i j : Nat} (h : DgW w0 W R Q b (off + i) (len - i) (cap - i) tos size all c) (hn : j ≤ len) (hl : len ≤ cap) (hc : j < cap) (hj : j = i + 4) :
    Calls Try.prog 58 #[.pointer (some ⟨R, 0, none⟩), .int .i64 4] W fun e w' => ∃ v, e = .returned v ∧ v = .slice (some ⟨b, off + i, none⟩) 4 (cap - i) ∧ DgW w0 w' R Q b (off + j) (len - j) (cap - j) tos size all c := by
  refine (h.run 4 (by omega) (by omega)).mono ?_
  rintro e w' ⟨v, rfl, hv, hS⟩
  rw [nxt_lt (by omega), show off + i + 4 = off + j by omega, show len - i - 4 = len - j by omega, show cap - i - 4 = cap - j by omega] at hS
  exact ⟨v, rfl, hv, hS⟩
/-- Bytes of old memory copied into the datagram. -/
theorem DgW.copy (h : DgW w0 W R Q b o len cap tos size all c) (hc : c.length = 17) {v : Value} {ys : List Int} (hb : BytesAt w0.heap.size w0 v ys) (p k : Nat) (hp : p + ys.length ≤ 17) (ty : TypeId) :
    ∃ r w2, (Builtin.copy_ #[25, 25] ty #[.slice (some ⟨Q + 1, p, none⟩) ys.length k, v]).run Try.prog W = .ok r w2 ∧ DgW w0 w2 R Q b o len cap tos size all (setsL c p (ys.map (fun z => Value.int .u8 z))) := by
  have hinf : (Try.prog.info? 5).map (·.size) = some 1 := by kernel_rfl
  obtain ⟨hf, hlen, a, cap', rfl, hz⟩ := hb
  rcases hz with h0 | ⟨sb, so, rfl, hlt, hcl⟩
  · obtain rfl : ys = [] := List.length_eq_zero_iff.1 h0
    exact ⟨_, W, run_copy_none W _ _ ty 5 _ a 0 k 0 cap' Try.underlying25 hinf (by simp), h⟩
  · have hs : ∀ j, j < ys.length → (W.cell? ⟨Q + 1, p + j, none⟩).isSome = true := fun j hj => by
      have : p + j < c.length := by omega
      simp [World.cell?, h.vb, this]
    refine ⟨_, _, run_copy_cells W _ _ ty 5 (Q + 1) p ys.length k ⟨sb, so, none⟩ ys.length cap' (ys.map (fun z => Value.int .u8 z)) Try.underlying25 hinf (by simp) ?_ (by simpa using hs) (fun j _ => blk_open h.vb _) (by simp [Value.oneCell']), h.sets p _⟩
    intro j x hj
    rw [Go.WideShapes.add_plain]
    rw [List.getElem?_map] at hj
    cases hz : ys[j]? with
    | none => simp [hz] at hj
    | some z =>
      simp [hz] at hj
      subst hj
      have := hcl j (List.getElem?_eq_some_iff.1 hz).1
      rw [hz] at this
      exact h.old hlt this
end

/-- The boxes at the start. -/
theorem DgW.start {w0 w : World} {R b o len cap : Nat} {tos size all : Int} (h : ReadW w0 w R b o len cap tos size all) :
    ∃ w3, (Instr.storeAt 27 (.pointer (some ⟨w.heap.size + 1, 0, none⟩)) (.agg (cV tos 0 false false 0 0 0 0 0 0 0 0 0 0 0 (.slice none 0 0) (.slice none 0 0)).toArray)).run Try.prog ((w.alloc (.cells zeroC.toArray 27)).alloc (.cells zeroC.toArray 27)) = .ok () w3
      ∧ DgW w0 w3 R w.heap.size b o len cap tos size all (cV tos 0 false false 0 0 0 0 0 0 0 0 0 0 0 (.slice none 0 0) (.slice none 0 0)) := by
  have hlt : R < w.heap.size := (Array.getElem?_eq_some_iff.1 h.blk).1
  have hv := blk_new (w.alloc (.cells zeroC.toArray 27)) (.cells zeroC.toArray 27)
  rw [show (w.alloc (.cells zeroC.toArray 27)).heap.size = w.heap.size + 1 by simp] at hv
  have h0 : DgW w0 ((w.alloc (.cells zeroC.toArray 27)).alloc (.cells zeroC.toArray 27)) R w.heap.size b o len cap tos size all zeroC :=
    ⟨blk_alloc (blk_alloc h.blk _) _, h.up, (h.bel.alloc (h.bel.size) _).alloc (by have := h.bel.size; simp; omega) _, blk_alloc (blk_new w _) _, hv, hlt⟩
  refine ⟨_, agg_store Try.sizeOf27 rfl ?_ ?_ (blk_open hv), h0.sets 0 _⟩
  · simp [cV, Value.oneCell']
  · intro j hj
    have hj' : j < zeroC.length := hj
    rw [Nat.zero_add, blk_cell hv (List.getElem?_eq_getElem hj')]
    rfl

end Go.Proofs.Ytmoogfdmlbalbaa
