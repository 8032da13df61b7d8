/-
  IPv6 addresses and prefixes as one value each: loads, literals, equality. IPv6 prefixes: cut6, Cut6. IPv6 prefixes: Cut6 and Check6 of the program. IPv6 prefixes: Check6 of the program. IPv6 prefixes: Cover6 and Has6 of the program. IPv6 prefixes: Has6 of the program. IPv6 prefixes: the document's Low6 and Check6. IPv6 prefixes: the document's Cut6. IPv6 prefixes: the document's Cover6; IPv6 addresses and prefixes as arguments.
  Maps whose keys are arrays and whose elements are pointers.
-/
import Derived.Test.YtgndiblonhgihaaFold08
import Derived.Test.YtgndiblonhgihaaFold07
import Derived.Test.YtgndiblonhgihaaFold05
import Derived.Test.YtgndiblonhgihaaFold06
import Derived.Test.YtgndiblonhgihaaFold09
import Derived.MapKept
namespace Go.Proofs.Ytgndiblonhgihaa
open Go Go.RowKit
set_option linter.unusedVariables false
set_option linter.unusedSimpArgs false

def u8s (l : List Int) : List Value := l.map (fun z => Value.int .u8 z)
abbrev A6 (l : List Int) : Value := .agg (u8s l).toArray
def cp6 (l : List Int) (n : Int) : List Value := u8s l ++ [Value.int .i64 n]
abbrev P6 (l : List Int) (n : Int) : Value := .agg (cp6 l n).toArray
theorem cp6_def (l : List Int) (n : Int) : cp6 l n = u8s l ++ [Value.int .i64 n] := rfl
theorem cp6_length (l : List Int) (n : Int) (h : l.length = 16) : (cp6 l n).length = 17 := by simp [cp6, u8s, h]
theorem u8s_length (l : List Int) : (u8s l).length = l.length := by simp [u8s]
theorem u8s_one (l : List Int) : ∀ v ∈ u8s l, v.oneCell' = true := by
  intro v hv
  obtain ⟨z, _, rfl⟩ := List.mem_map.1 hv
  rfl
theorem cp6_one (l : List Int) (n : Int) : ∀ v ∈ cp6 l n, v.oneCell' = true := by
  intro v hv
  rcases List.mem_append.1 hv with h | h
  · exact u8s_one l v h
  · simp at h
    subst h
    rfl
theorem six16 {l : List Int} (h : l.length = 16) : ∃ a0 a1 a2 a3 a4 a5 a6 a7 a8 a9 a10 a11 a12 a13 a14 a15, l = [a0, a1, a2, a3, a4, a5, a6, a7, a8, a9, a10, a11, a12, a13, a14, a15] := by
  match l, h with
  | [a0, a1, a2, a3, a4, a5, a6, a7, a8, a9, a10, a11, a12, a13, a14, a15], _ => exact ⟨a0, a1, a2, a3, a4, a5, a6, a7, a8, a9, a10, a11, a12, a13, a14, a15, rfl⟩

theorem load6 {w : World} {b o : Nat} {l : List Int} (hl : l.length = 16) (h : CellsAt w b o (u8s l)) : (Instr.loadAt 35 (.pointer (some ⟨b, o, none⟩))).run Try.prog w = .ok (A6 l) w :=
  agg_load Try.isAgg35 Try.sizeOf35 (by rw [u8s_length, hl]) h
theorem eq_arr16 (d : Nat) (zs ys : List Int) (h : FitB zs) (g : FitB ys) (hl : zs.length = 16) (gl : ys.length = 16) (W : World) :
    (Op.equalIn (d + 2) 35 (A6 zs) (A6 ys)).run Try.prog W = .ok (decide (zs = ys)) W := by
  have := run_equalIn_bytes (P := Try.prog) W d 35 5 16 Try.underlying35 Try.underlying5 (fun w => by simp [go_sem]) (zs.map (fun z => UInt8.ofNat z.toNat)) (ys.map (fun z => UInt8.ofNat z.toNat)) (by simpa using hl) (by simpa using gl)
  rw [bytes_inj zs ys h g] at this
  have e1 := cells_back zs h
  have e2 := cells_back ys g
  unfold A6 u8s
  rw [← e1, ← e2]
  exact this

/-- A box for a prefix, and its two parts. -/
theorem CellsAt.pfx {w : World} {b : Nat} {l : List Int} {n : Int} {t : TypeId} (hl : l.length = 16) (h : w.heap[b]? = some (.cells (cp6 l n).toArray t)) : CellsAt w b 0 (cp6 l n) ∧ CellsAt w b 0 (u8s l) ∧ w.cell? ⟨b, 16, none⟩ = some (.int .i64 n) := by
  have h1 : CellsAt w b 0 (cp6 l n) := CellsAt.of_blk h
  refine ⟨h1, CellsAt.fst h1, ?_⟩
  have := h1 16 (.int .i64 n) (by have : (u8s l).length = 16 := by rw [u8s_length, hl]
                                  simp [cp6, this])
  simpa using this
theorem cp6_take (l : List Int) (n : Int) (hl : l.length = 16) : List.take 16 (cp6 l n) = u8s l := by
  have : (u8s l).length = 16 := by rw [u8s_length, hl]
  unfold cp6
  rw [List.take_append_of_le_length (by omega), List.take_of_length_le (by omega)]
theorem cp6_get (l : List Int) (n : Int) (hl : l.length = 16) : (cp6 l n)[16]? = some (Value.int .i64 n) := by
  have : (u8s l).length = 16 := by rw [u8s_length, hl]
  simp [cp6, this]
theorem cp6_fst (l : List Int) (n : Int) (hl : l.length = 16) : (cp6 l n).toArray.extract 0 16 = (u8s l).toArray := by
  have : (u8s l).length = 16 := by rw [u8s_length, hl]
  apply Array.ext'
  simp [cp6, this]
theorem cp6_snd (l : List Int) (n : Int) (hl : l.length = 16) : (cp6 l n).toArray[16]? = some (Value.int .i64 n) := by
  have : (u8s l).length = 16 := by rw [u8s_length, hl]
  simp [cp6, this]

/-- A block for a prefix that is open. -/
structure Slot6 (w : World) (R : Nat) : Prop where
  open' : ∀ i, w.frozen? ⟨R, i, none⟩ = false
  some' : ∀ i, i < 17 → (w.cell? ⟨R, i, none⟩).isSome = true
theorem zero6 : P6 (List.replicate 16 0) 0 = .agg #[.int .u8 0, .int .u8 0, .int .u8 0, .int .u8 0, .int .u8 0, .int .u8 0, .int .u8 0, .int .u8 0, .int .u8 0, .int .u8 0, .int .u8 0, .int .u8 0, .int .u8 0, .int .u8 0, .int .u8 0, .int .u8 0, .int .i64 0] := by kernel_rfl
end Go.Proofs.Ytgndiblonhgihaa

namespace Go.Proofs.Ytgndiblonhgihaa
open Go Go.RowKit
set_option linter.unusedVariables false
set_option linter.unusedSimpArgs false

theorem blankL_get (zs : List Int) (n : Int) (k i : Nat) : (blankL zs n k)[i]? = if i < k then (zs[i]?).map (fun z => bl z (n - 8 * i)) else zs[i]? := by
  induction k with
  | zero => simp [blankL]
  | succ k ih =>
    simp only [blankL]
    by_cases e : i = k
    · subst e
      rw [if_pos (by omega)]
      by_cases hi : i < zs.length
      · rw [List.getElem?_set_self (by simpa using hi)]
        have e2 : (blankL zs n i)[i]? = zs[i]? := by rw [ih, if_neg (by omega)]
        rw [e2, List.getElem?_eq_getElem hi]
        rfl
      · rw [List.getElem?_eq_none (by simpa using hi), List.getElem?_eq_none (by omega)]
        rfl
    · rw [List.getElem?_set_ne (by omega), ih]
      by_cases hi : i < k
      · rw [if_pos hi, if_pos (by omega)]
      · rw [if_neg hi, if_neg (by omega)]
theorem blankL_all (zs : List Int) (n : Int) : blankL zs n zs.length = blR n zs := by
  apply List.ext_getElem?
  intro i
  rw [blankL_get]
  unfold blR
  rw [List.getElem?_mapIdx]
  by_cases h : i < zs.length
  · rw [if_pos h]
  · rw [if_neg h, List.getElem?_eq_none (by omega)]
    rfl
theorem blR_length (n : Int) (l : List Int) : (blR n l).length = l.length := by simp [blR]
theorem blR_fit {n : Int} {l : List Int} (h : FitB l) : FitB (blR n l) := by
  intro z hz
  unfold blR at hz
  rw [List.mem_mapIdx] at hz
  obtain ⟨i, hi, rfl⟩ := hz
  exact bl_fit _ _ (h _ (List.getElem_mem hi))

theorem OwnG.cells {w : World} {b : Nat} {l : List Int} (h : OwnG w b l) : CellsAt w b 0 (u8s l) := by
  intro j v hj
  unfold u8s at hj
  rw [List.getElem?_map] at hj
  cases hz : l[j]? with
  | none => simp [hz] at hj
  | some z =>
    simp [hz] at hj
    subst hj
    have := h.cell j (List.getElem?_eq_some_iff.1 hz).1
    rw [hz] at this
    simpa using this
theorem OwnG.of_blk {w : World} {b : Nat} {l : List Int} {t : TypeId} (h : w.heap[b]? = some (.cells (u8s l).toArray t)) : OwnG w b l := by
  refine ⟨⟨_, _, h⟩, fun j hj => ?_⟩
  simp [World.cell?, h, A6, Value.cells, u8s, hj]

end Go.Proofs.Ytgndiblonhgihaa

namespace Go.Proofs.Ytgndiblonhgihaa
open Go Go.RowKit
set_option linter.unusedVariables false
set_option linter.unusedSimpArgs false

end Go.Proofs.Ytgndiblonhgihaa

namespace Go.Proofs.Ytgndiblonhgihaa
open Go Go.RowKit
set_option linter.unusedVariables false
set_option linter.unusedSimpArgs false

def okP6 (l : List Int) (n : Int) : Bool := decide (0 ≤ n ∧ n ≤ 128) && decide (l = blR n l)

end Go.Proofs.Ytgndiblonhgihaa

namespace Go.Proofs.Ytgndiblonhgihaa
open Go Go.RowKit
set_option linter.unusedVariables false
set_option linter.unusedSimpArgs false

def cov6 (l : List Int) (n : Int) (k : List Int) (m : Int) : Bool := decide (n ≤ m) && decide (l = blR n k)
def both6 (l : List Int) (n : Int) (k : List Int) (m : Int) : Bool := okP6 l n && okP6 k m

theorem two_new (w : World) (o1 o2 : Obj) {w' : World} (hb : Below ((w.alloc o1).alloc o2).heap.size ((w.alloc o1).alloc o2) w') :
    Below w.heap.size w w' ∧ w'.heap[w.heap.size]? = some o1 ∧ w'.heap[w.heap.size + 1]? = some o2 := by
  have e1 := blk_on (blk_alloc (blk_new w o1) o2) hb
  have e2 := blk_on (blk_new (w.alloc o1) o2) hb
  rw [World.size_alloc] at e2
  have hB : Below w.heap.size w ((w.alloc o1).alloc o2) := ((Below.refl _ w).alloc (Nat.le_refl _) _).alloc (by simp) _
  exact ⟨hB.trans (hb.mono hB.size), e1, e2⟩

end Go.Proofs.Ytgndiblonhgihaa

namespace Go.Proofs.Ytgndiblonhgihaa
open Go Go.RowKit
set_option linter.unusedVariables false
set_option linter.unusedSimpArgs false

theorem blR_all {l : List Int} (h : FitB l) (hl : l.length = 16) : blR 128 l = l := by
  apply List.ext_getElem?
  intro i
  unfold blR
  rw [List.getElem?_mapIdx]
  by_cases hi : i < l.length
  · rw [List.getElem?_eq_getElem hi]
    have hz := h _ (List.getElem_mem hi)
    simp only [Option.map_some]
    congr 1
    unfold bl msk
    rw [show (min (max ((128 : Int) - 8 * i) 0) 8).toNat = 8 by omega]
    have e : (l[i].toNat &&& (255 - 255 / 2 ^ 8)) = l[i].toNat := by
      rw [show 255 - 255 / 2 ^ 8 = 2 ^ 8 - 1 from rfl, Nat.and_two_pow_sub_one_eq_mod]
      omega
    rw [e]
    omega
  · rw [List.getElem?_eq_none (by omega)]
    rfl
theorem ok128 {l : List Int} (h : FitB l) (hl : l.length = 16) : okP6 l 128 = true := by
  unfold okP6
  rw [decide_eq_true (by omega), Bool.true_and, decide_eq_true (blR_all h hl).symm]
def has6 (l : List Int) (n : Int) (k : List Int) : Bool := decide (blR n k = l)
theorem has6_cov {l k : List Int} {n : Int} (kf : FitB k) (kl : k.length = 16) : (both6 l n k 128 && cov6 l n k 128) = (okP6 l n && has6 l n k) ∧ both6 l n k 128 = okP6 l n := by
  have e : both6 l n k 128 = okP6 l n := by unfold both6; rw [ok128 kf kl, Bool.and_true]
  refine ⟨?_, e⟩
  rw [e]
  cases hok : okP6 l n
  · rfl
  · have hn : 0 ≤ n ∧ n ≤ 128 := by simp [okP6] at hok; exact hok.1
    unfold cov6 has6
    rw [decide_eq_true hn.2, Bool.true_and]
    congr 1
    rw [decide_eq_decide]
    exact ⟨Eq.symm, Eq.symm⟩

end Go.Proofs.Ytgndiblonhgihaa

namespace Go.Proofs.Ytgndiblonhgihaa
open Go Go.RowKit
set_option linter.unusedVariables false
set_option linter.unusedSimpArgs false

theorem bitN_blR {l : List Int} (h : FitB l) (n i : Nat) (hi : i < 8 * l.length) : bitN (blR n l) i = if i < n then bitN l i else 0 := by
  unfold bitN blR
  have hlt : i / 8 < l.length := by omega
  rw [List.getElem?_mapIdx, List.getElem?_eq_getElem hlt]
  simp only [Option.map_some, Option.getD_some]
  rw [bk_bl _ _ _ (Nat.mod_lt _ (by decide)) (h _ (List.getElem_mem hlt))]
  by_cases c : i < n
  · rw [if_pos c, if_pos (by omega)]
  · rw [if_neg c, if_neg (by omega)]
theorem low_blR {l : List Int} (h : FitB l) (n : Nat) : lowB l n = decide (l = blR n l) := by
  unfold lowB
  rw [decide_eq_decide]
  constructor
  · intro g
    refine row_ext (by rw [blR_length]) h (blR_fit h) fun p hp => ?_
    rw [bitN_blR h n p hp]
    by_cases c : p < n
    · rw [if_pos c]
    · rw [if_neg c]; exact g p hp (by omega)
  · intro e i hi hni
    rw [e, bitN_blR h n i hi, if_neg (by omega)]
theorem clr_blR {l : List Int} (h : FitB l) (n : Nat) (hn : n ≤ 8 * l.length) : clrL l n (8 * l.length - n) = blR n l := by
  refine row_ext (by simp [blR_length]) (clrL_fit h _ _) (blR_fit h) fun p hp => ?_
  have hp' : p < 8 * l.length := by simpa using hp
  rw [bitN_clrL h _ _ _ (by omega), bitN_blR h n p hp']
  by_cases c : p < n
  · rw [if_neg (by omega), if_pos c]
  · rw [if_pos (by omega), if_neg c]

end Go.Proofs.Ytgndiblonhgihaa

namespace Go.Proofs.Ytgndiblonhgihaa
open Go Go.RowKit
set_option linter.unusedVariables false
set_option linter.unusedSimpArgs false

end Go.Proofs.Ytgndiblonhgihaa

namespace Go.Proofs.Ytgndiblonhgihaa
open Go Go.RowKit Go.ChangeShapes
set_option linter.unusedVariables false
set_option linter.unusedSimpArgs false

theorem cov6_has (l : List Int) (n : Int) (k : List Int) (m : Int) : cov6 l n k m = (has6 l n k && decide (n ≤ m)) := by
  unfold cov6 has6
  rw [Bool.and_comm]
  congr 1
  rw [decide_eq_decide]
  exact ⟨Eq.symm, Eq.symm⟩

theorem open_addr6 {H : Type} {enc : TypeId × Value → H} {W : World} {v : Value} {d : DataW H} {p : List MemPlace} (h : DataW.Trod enc Try.prog W 0 (fun _ => true) true 35 v d p) :
    ∃ l, v = A6 l ∧ l.length = 16 ∧ FitB l := by
  obtain ⟨fuel, hf⟩ := h
  obtain ⟨zs, hl, hcs, hfit⟩ := cells_arr Try.underlying35 (by kernel_rfl) (by kernel_rfl) hf
  exact ⟨zs, agg_of (l := zs.map (fun z => Value.int .u8 z)) hcs (by rw [List.length_map, hl]; decide), hl, hfit⟩

end Go.Proofs.Ytgndiblonhgihaa

namespace Go.Proofs.Ytgndiblonhgihaa
open Go Go.RowKit
set_option linter.unusedVariables false
set_option linter.unusedSimpArgs false

/-- A key that may be: an array of 16 bytes. -/
structure K16 (l : List Int) : Prop where
  fit : FitB l
  len : l.length = 16
set_option maxRecDepth 100000 in
theorem chk16t (a0 a1 a2 a3 a4 a5 a6 a7 a8 a9 a10 a11 a12 a13 a14 a15 : Int) (w : World) : (Instr.checkKey true 10000 35 (.agg (u8s [a0, a1, a2, a3, a4, a5, a6, a7, a8, a9, a10, a11, a12, a13, a14, a15]).toArray)).run Try.prog w = .ok () w := by kernel_rfl
set_option maxRecDepth 100000 in
theorem chk16f (a0 a1 a2 a3 a4 a5 a6 a7 a8 a9 a10 a11 a12 a13 a14 a15 : Int) (w : World) : (Instr.checkKey false 10000 35 (.agg (u8s [a0, a1, a2, a3, a4, a5, a6, a7, a8, a9, a10, a11, a12, a13, a14, a15]).toArray)).run Try.prog w = .ok () w := by kernel_rfl
theorem chk16 {l : List Int} (h : l.length = 16) (b : Bool) (w : World) : (Instr.checkKey b 10000 35 (.agg (u8s l).toArray)).run Try.prog w = .ok () w := by
  match l, h with
  | [a0, a1, a2, a3, a4, a5, a6, a7, a8, a9, a10, a11, a12, a13, a14, a15], _ =>
    cases b
    · exact chk16f a0 a1 a2 a3 a4 a5 a6 a7 a8 a9 a10 a11 a12 a13 a14 a15 w
    · exact chk16t a0 a1 a2 a3 a4 a5 a6 a7 a8 a9 a10 a11 a12 a13 a14 a15 w
/-- The first entry of a key. -/
def fnd (d : List Int) : List (List Int × Nat) → Nat → Option (Nat × Nat)
  | [], _ => none
  | x :: r, i => if d = x.1 then some (i, x.2) else fnd d r (i + 1)
def EntR (e : MapEntry) (x : List Int × Nat) : Prop := e.key = .agg (u8s x.1).toArray ∧ e.val = .pointer (some ⟨x.2, 0, none⟩)
/-- What a map's entries are. -/
inductive MapC : List MapEntry → List (List Int × Nat) → Prop
  | nil : MapC [] []
  | cons {e : MapEntry} {x : List Int × Nat} {es : List MapEntry} {L : List (List Int × Nat)} : EntR e x → MapC es L → MapC (e :: es) (x :: L)
theorem MapC.app {es fs : List MapEntry} {L M : List (List Int × Nat)} (h : MapC es L) (g : MapC fs M) : MapC (es ++ fs) (L ++ M) := by
  induction h with
  | nil => exact g
  | cons h1 h2 ih => exact .cons h1 ih
theorem MapC.cut {es : List MapEntry} {L : List (List Int × Nat)} (h : MapC es L) : ∀ i : Nat, MapC (es.eraseIdx i) (L.eraseIdx i) := by
  induction h with
  | nil => intro i; exact .nil
  | cons h1 h2 ih =>
    intro i
    cases i with
    | zero => exact h2
    | succ i => exact .cons h1 (ih i)
theorem ask16 {d : List Int} (hd : K16 d) (w : World) : ∀ {es : List MapEntry} {L : List (List Int × Nat)} (i : Nat), MapC es L → (∀ x ∈ L, K16 x.1) → (Instr.findAsking 35 (.agg (u8s d).toArray) es i).run Try.prog w = .ok ((fnd d L i).map fun r => (r.1, .pointer (some ⟨r.2, 0, none⟩))) w := by
  intro es L i h
  induction h generalizing i with
  | nil => intro _; rfl
  | cons h1 h2 ih =>
    rename_i e x es L
    intro hL
    have hx := hL x (by simp)
    have he : (Op.equal 35 (.agg (u8s d).toArray) e.key).run Try.prog w = .ok (decide (d = x.1)) w := by
      rw [h1.1]
      exact eq_arr16 9998 d x.1 hd.fit hx.fit hd.len hx.len w
    unfold Instr.findAsking
    simp only [Sem.run_bind, he, Result.andThen_ok]
    unfold fnd
    by_cases c : d = x.1
    · rw [if_pos c, decide_eq_true c]
      simp [h1.2]
    · rw [if_neg c, decide_eq_false c]
      simp only [Bool.false_eq_true, if_false]
      exact ih (i + 1) (fun y hy => hL y (by simp [hy]))
theorem now16 {d : List Int} {es : List MapEntry} {L : List (List Int × Nat)} (h : MapC es L) : Instr.findNow (.array 16 5) (.agg (u8s d).toArray) es 0 = (if es = [] then some none else none) := by
  cases h with
  | nil => rfl
  | cons h1 h2 => rfl
theorem find16 {d : List Int} (hd : K16 d) (w : World) {es : List MapEntry} {L : List (List Int × Nat)} (h : MapC es L) (hL : ∀ x ∈ L, K16 x.1) : (Instr.findKey 35 (.agg (u8s d).toArray) es).run Try.prog w = .ok ((fnd d L 0).map fun r => (r.1, .pointer (some ⟨r.2, 0, none⟩))) w := by
  have ha := ask16 hd w 0 h hL
  unfold Instr.findKey
  simp only [Sem.run_bind, run_underlying Try.underlying35, Result.andThen_ok]
  rw [now16 h]
  cases h with
  | nil => rfl
  | cons h1 h2 => exact ha
/-- A map in memory. -/
def MapAt (W : World) (mb : Nat) (L : List (List Int × Nat)) : Prop := ∃ (es : Array MapEntry) (clock : Nat), W.heap[mb]? = some (.map es clock) ∧ MapC es.toList L
theorem MapAt.on {W W' : World} {mb : Nat} {L : List (List Int × Nat)} (h : MapAt W mb L) (hb : W'.heap[mb]? = W.heap[mb]?) : MapAt W' mb L := by
  obtain ⟨es, c, h1, h2⟩ := h
  exact ⟨es, c, hb.trans h1, h2⟩
theorem MapAt.lt {W : World} {mb : Nat} {L : List (List Int × Nat)} (h : MapAt W mb L) : mb < W.heap.size := by
  obtain ⟨es, c, h1, h2⟩ := h
  exact (Array.getElem?_eq_some_iff.1 h1).1
/-- What a look-up finds. -/
def ptrF (d : List Int) (L : List (List Int × Nat)) : Value := match fnd d L 0 with | some r => .pointer (some ⟨r.2, 0, none⟩) | none => .pointer none
theorem look16 {d : List Int} (hd : K16 d) {W : World} {mb : Nat} {L : List (List Int × Nat)} (h : MapAt W mb L) (hL : ∀ x ∈ L, K16 x.1) : (Instr.lookup 61 (.map (some mb)) (.agg (u8s d).toArray) false).run Try.prog W = .ok (ptrF d L) W := by
  obtain ⟨es, c, h1, h2⟩ := h
  have hf := find16 hd W h2 hL
  have hz : (zeroValue 74).run Try.prog W = .ok (.pointer none) W := by kernel_rfl
  unfold Instr.lookup
  simp only [Sem.run_bind, run_underlying Try.underlying61, Result.andThen_ok, MapKept.run_getObj_map h1, chk16 hd.len, hf, Sem.run_pure]
  unfold ptrF
  cases hq : fnd d L 0 with
  | none => simp [hz, Result.andThen]
  | some r => simp
theorem store16 {d : List Int} (hd : K16 d) {W : World} {mb q : Nat} {L : List (List Int × Nat)} (h : MapAt W mb L) (hL : ∀ x ∈ L, K16 x.1) (hn : fnd d L 0 = none) : ∃ W', (Instr.mapUpdate 61 (.map (some mb)) (.agg (u8s d).toArray) (.pointer (some ⟨q, 0, none⟩))).run Try.prog W = .ok () W' ∧ MapAt W' mb (L ++ [(d, q)]) ∧ Only mb W W' := by
  obtain ⟨es, c, h1, h2⟩ := h
  have hf := find16 hd W h2 hL
  rw [hn] at hf
  refine ⟨{ W with heap := W.heap.setIfInBounds mb (.map (es.push { key := .agg (u8s d).toArray, val := .pointer (some ⟨q, 0, none⟩), born := c }) (c + 1)) }, ?_, ⟨_, _, (MapKept.heap_set h1).1, ?_⟩, ⟨rfl, rfl, rfl, by simp, fun j hj => (MapKept.heap_set h1).2 j hj⟩⟩
  · unfold Instr.mapUpdate
    simp only [Sem.run_bind, run_underlying Try.underlying61, Result.andThen_ok, MapKept.run_getObj_map h1, chk16 hd.len, hf, Option.map_none]
    rw [MapKept.run_setObj_map _ h1]
  · rw [Array.toList_push]
    exact h2.app (.cons ⟨rfl, rfl⟩ .nil)
theorem drop16 {d : List Int} (hd : K16 d) {W : World} {mb : Nat} {L : List (List Int × Nat)} (h : MapAt W mb L) (hL : ∀ x ∈ L, K16 x.1) {r : Nat × Nat} (hr : fnd d L 0 = some r) (ty : TypeId) : ∃ W', (Builtin.delete_ #[61, 35] ty #[.map (some mb), .agg (u8s d).toArray]).run Try.prog W = .ok (.tuple #[]) W' ∧ MapAt W' mb (L.eraseIdx r.1) ∧ Only mb W W' := by
  obtain ⟨es, c, h1, h2⟩ := h
  have hf := find16 hd W h2 hL
  rw [hr] at hf
  refine ⟨{ W with heap := W.heap.setIfInBounds mb (.map (es.eraseIdxIfInBounds r.1) c) }, ?_, ⟨_, _, (MapKept.heap_set h1).1, ?_⟩, ⟨rfl, rfl, rfl, by simp, fun j hj => (MapKept.heap_set h1).2 j hj⟩⟩
  · unfold Builtin.delete_
    simp [Sem.run_bind, run_underlying Try.underlying61, Result.andThen_ok, MapKept.run_getObj_map h1, chk16 hd.len, hf, MapKept.run_setObj_map _ h1]
  · rw [Array.toList_eraseIdxIfInBounds]
    exact h2.cut r.1
end Go.Proofs.Ytgndiblonhgihaa
