/-
  What a call of package addr turns in memory: cells of one block; or own blocks and own rows of bytes.
  Slices that a call makes by itself and appends to: what an append leaves, and where its row lies.
  Package addr as plain functions on plain data: how its readers of texts go on letter by letter.
  number.take, dotted.take, dotted.whole and dotted.addr, at whatever address.
-/
import Derived.Test.YtaebknkjhhcneaaGreatDoorRows
import Derived.WalkKit
import Derived.Lib.OthersKept
import Derived.Below
import Derived.Deep.Draws
import Derived.Laws.AppendOwn
import Derived.Deep.AppendSrc
import Derived.Laws.BytesArg
import Derived.Deep.RegionLaw
import Derived.BigRegion
import Derived.OpenShut
namespace Go.Proofs.YtaebknkjhhcneaaGreatDoor
set_option linter.unusedVariables false
set_option linter.unusedSimpArgs false
open Go Go.RowKit

/-- Nothing is turned but k cells of block b, from o on, and how much of the tape is drawn. -/
structure Wrote (b o k : Nat) (w w' : World) : Prop where
  os : w'.os = w.os
  tape : w'.tape = w.tape
  output : w'.output = w.output
  size : w'.heap.size = w.heap.size
  other : ∀ j, j ≠ b → w'.heap[j]? = w.heap[j]?
  typed : ∀ cs t fz, w.heap[b]? = some (.cells cs t fz) → ∃ cs', w'.heap[b]? = some (.cells cs' t fz)
  cell : ∀ i, (i < o ∨ o + k ≤ i) → w'.cell? ⟨b, i, none⟩ = w.cell? ⟨b, i, none⟩

theorem Wrote.refl (b o k : Nat) (w : World) : Wrote b o k w w := ⟨rfl, rfl, rfl, rfl, fun _ _ => rfl, fun cs _ _ h => ⟨cs, h⟩, fun _ _ => rfl⟩

theorem Wrote.trans {b o k : Nat} {u v w : World} (h : Wrote b o k u v) (g : Wrote b o k v w) : Wrote b o k u w :=
  ⟨g.os.trans h.os, g.tape.trans h.tape, g.output.trans h.output, g.size.trans h.size, fun j hj => (g.other j hj).trans (h.other j hj),
    fun cs t fz hc => by obtain ⟨c2, h2⟩ := h.typed cs t fz hc; exact g.typed c2 t fz h2, fun i hi => (g.cell i hi).trans (h.cell i hi)⟩

theorem Wrote.drew {b o k : Nat} {u w : World} (h : Wrote b o k u w) : Wrote b o k u w.drew := ⟨h.os, h.tape, h.output, h.size, h.other, h.typed, h.cell⟩
theorem Wrote.drewN {b o k : Nat} {u w : World} (h : Wrote b o k u w) (n : Nat) : Wrote b o k u (w.drewN n) := ⟨h.os, h.tape, h.output, h.size, h.other, h.typed, h.cell⟩

theorem Wrote.set {b o k : Nat} {u w : World} (h : Wrote b o k u w) {i : Nat} (hi : o ≤ i ∧ i < o + k) (v : Value) : Wrote b o k u (w.setCell ⟨b, i, none⟩ v) := by
  refine h.trans ⟨rfl, rfl, rfl, by simp [World.setCell], fun j hj => Below.heap_setCell _ _ _ _ hj, ?_, fun x hx => World.cell?_setCell_other _ _ _ _ (fun e => ?_)⟩
  · intro cs t fz hc
    have hlt : b < w.heap.size := (Array.getElem?_eq_some_iff.1 hc).1
    refine ⟨cs.setIfInBounds i v, ?_⟩
    simp [World.setCell, Array.getElem?_modify, hc]
  · injection e with e1 e2 e3
    omega

theorem Wrote.mono {b o k o' k' : Nat} {u w : World} (h : Wrote b o k u w) (h1 : o' ≤ o) (h2 : o + k ≤ o' + k') : Wrote b o' k' u w :=
  ⟨h.os, h.tape, h.output, h.size, h.other, h.typed, fun i hi => h.cell i (by omega)⟩

theorem Wrote.below {b o k B : Nat} {u w : World} (h : Wrote b o k u w) (hB : B ≤ b) : Below B u w :=
  ⟨h.os, h.tape, h.output, by rw [h.size]; exact Nat.le_refl _, fun j hj => h.other j (by omega)⟩

/-- Block b is one of n cells of that type, none of them frozen. -/
def Typed (w : World) (b : Nat) (t : TypeId) : Prop := ∃ cs, w.heap[b]? = some (.cells cs t (0, 0))

theorem Typed.wrote {b o k c : Nat} {t : TypeId} {u w : World} (h : Typed u c t) (g : Wrote b o k u w) : Typed w c t := by
  obtain ⟨cs, hc⟩ := h
  by_cases e : c = b
  · subst e; exact g.typed cs t _ hc
  · exact ⟨cs, (g.other c e).trans hc⟩

theorem Typed.open {w : World} {b : Nat} {t : TypeId} (h : Typed w b t) : ∀ i, w.frozen? ⟨b, i, none⟩ = false := by
  obtain ⟨cs, hc⟩ := h
  intro i
  simp [World.frozen?, hc]

/-- Below B all stands, and so does every block but those of one's own and rows of bytes. -/
structure Turns (B : Nat) (own : Nat → Prop) (w w' : World) : Prop where
  below : Below B w w'
  kept : ∀ k o, w.heap[k]? = some o → ¬ own k → (∀ c fz, o ≠ .cells c 5 fz) → w'.heap[k]? = some o

theorem Turns.refl (B : Nat) (own : Nat → Prop) (w : World) : Turns B own w w := ⟨Below.refl _ _, fun _ _ h _ _ => h⟩
theorem Turns.trans {B : Nat} {own : Nat → Prop} {u v w : World} (h : Turns B own u v) (g : Turns B own v w) : Turns B own u w :=
  ⟨h.below.trans g.below, fun k o hk hn ho => g.kept k o (h.kept k o hk hn ho) hn ho⟩
theorem Turns.drewN {B : Nat} {own : Nat → Prop} {u w : World} (h : Turns B own u w) (n : Nat) : Turns B own u (w.drewN n) := ⟨⟨h.below.os, h.below.tape, h.below.output, h.below.size, h.below.block⟩, h.kept⟩
theorem Turns.drew {B : Nat} {own : Nat → Prop} {u w : World} (h : Turns B own u w) : Turns B own u w.drew := ⟨h.below.drew, h.kept⟩
theorem Turns.mono {B : Nat} {own own' : Nat → Prop} {u w : World} (h : Turns B own u w) (ho : ∀ k, own k → own' k) : Turns B own' u w :=
  ⟨h.below, fun k o hk hn hx => h.kept k o hk (fun e => hn (ho k e)) hx⟩
theorem Turns.less {B B' : Nat} {own : Nat → Prop} {u w : World} (h : Turns B own u w) (hB : B' ≤ B) : Turns B' own u w := ⟨h.below.mono hB, h.kept⟩

theorem Wrote.turns {b o k B : Nat} {u w : World} (h : Wrote b o k u w) (hB : B ≤ b) : Turns B (fun j => j = b) u w :=
  ⟨h.below hB, fun j x hj hn _ => (h.other j hn).trans hj⟩

theorem Turns.alloc {B : Nat} {own : Nat → Prop} {u w : World} (h : Turns B own u w) (hB : B ≤ w.heap.size) (o : Obj) : Turns B own u (w.alloc o) :=
  ⟨h.below.alloc hB o, fun k x hk hn hx => by
    have h1 := h.kept k x hk hn hx
    rw [Below.heap_alloc w o k (Array.getElem?_eq_some_iff.1 h1).1]
    exact h1⟩

/-- What an append to an own row of bytes does. -/
theorem Turns.grown {B : Nat} {own : Nat → Prop} {u w w' : World} {n : Nat} {v : Value} {xs : List Value} (h : Turns B own u w) (hown : w.ownsRow B 5 1 v n xs) (hg : w.grownBy w' v.ownBlock) (hB : B ≤ w.heap.size) : Turns B own u w' := by
  refine ⟨h.below.grown hg hB (fun k hk => (hown.lt k hk).1), fun k o hk hn hx => ?_⟩
  have h1 := h.kept k o hk hn hx
  rw [hg.block k (Array.getElem?_eq_some_iff.1 h1).1]
  · exact h1
  · intro e
    rcases hown.2 with ⟨rfl, _⟩ | ⟨g, cap, cur, rfl, _, hgg, _⟩
    · simp [Value.ownBlock] at e
    · simp only [Value.ownBlock, Option.some.injEq] at e
      subst e
      rw [h1] at hgg
      exact hx _ _ (Option.some.inj hgg)

end Go.Proofs.YtaebknkjhhcneaaGreatDoor

namespace Go.Proofs.YtaebknkjhhcneaaGreatDoor
open Go Go.RowKit
set_option linter.unusedVariables false

/-- t is the type of slices of e, whose elements take one cell and by' bytes. -/
structure Elem (t e : TypeId) (z : Value) (by' : Nat) : Prop where
  und : Tryz.prog.underlying t = some (.slice e)
  inf : (Tryz.prog.info? e).map (fun i => (i.zero, i.size, i.bytes)) = some (some z, 1, by')
  one : z.cells.size = 1

theorem elem_int : Elem 137 3 (.int .i64 0) 8 := ⟨Tryz.underlying137, by kernel_rfl, rfl⟩
theorem elem_string : Elem 205 9 (.string ⟨#[]⟩) 16 := ⟨Tryz.underlying205, by kernel_rfl, rfl⟩
theorem elem_u8 : Elem 127 5 (.int .u8 0) 1 := ⟨Tryz.underlying127, by kernel_rfl, rfl⟩

/-- An append to a slice of the call's own: a longer row of its own, in the same block or in a new one. -/
theorem own_append {t e : TypeId} {z : Value} {by' : Nat} (E : Elem t e z by') {w : World} {base n m c : Nat} {v : Value} {xs : List Value} (hown : w.ownsRow base e 1 v n xs) (a : Option Addr) (news : List Value) (hl : news.length = m)
    (ha : a = none → m = 0) (hnews : ∀ x, a = some x → ∀ (j : Nat) u, news[j]? = some u → w.cell? (x.add j) = some u) (h1 : ∀ u ∈ news, u.oneCell' = true) (h63 : n + m ≤ maxLen) (hby : (n + m) * by' ≤ 140737488355328) (hbase : base ≤ w.heap.size) (ty : TypeId) :
    ∃ v' w', (Builtin.append_ #[t, t] ty #[v, .slice a m c]).run Tryz.prog w = .ok v' w' ∧ w'.ownsRow base e 1 v' (n + m) (xs ++ news) ∧ w.grownBy w' v.ownBlock ∧ (v'.ownBlock = v.ownBlock ∨ ∀ k, v'.ownBlock = some k → w.heap.size ≤ k) := by
  obtain ⟨i, hi, hz, hs, hb⟩ := info_parts E.inf
  cases a with
  | none =>
    obtain rfl : m = 0 := ha rfl
    obtain rfl : news = [] := List.length_eq_zero_iff.1 hl
    refine ⟨v, w, ?_, by simpa using hown, ⟨rfl, rfl, rfl, Nat.le_refl _, fun _ _ _ => rfl⟩, .inl rfl⟩
    rcases hown.2 with ⟨rfl, rfl⟩ | ⟨g, cap, cur, rfl, _, hg, hnc, _, _, _⟩
    · simp [Builtin.append_, run_underlying E.und, sizeOf, typeInfo, hi, Builtin.lenOf, Builtin.firstCells]
    · simp [Builtin.append_, run_underlying E.und, sizeOf, typeInfo, hi, Builtin.lenOf, Builtin.firstCells, hnc, storeCells]
  | some x =>
    obtain ⟨v', w', hrun, r1, r2, r3⟩ := run_append_own (P := Tryz.prog) w base t ty e i z 1 by' E.und hi hz hs hb E.one (by decide) v n xs hown x m c news (by omega) (hnews x rfl) h1 h63 hby hbase
    refine ⟨v', w', hrun, r1, r2, ?_⟩
    rcases hown.2 with ⟨rfl, rfl⟩ | ⟨g, cap, cur, rfl, hbg, hg, hnc, hcm, hcs, htake⟩
    · obtain rfl : xs = [] := List.length_eq_zero_iff.1 (by simpa using hown.1)
      obtain ⟨v2, w2, hrun2, q1, _, _⟩ := run_append_own (P := Tryz.prog) w w.heap.size t ty e i z 1 by' E.und hi hz hs hb E.one (by decide) _ 0 [] (World.ownsRow_nil w _ e 1) x m c news (by omega) (hnews x rfl) h1 h63 hby (Nat.le_refl _)
      rw [hrun] at hrun2
      cases hrun2
      exact .inr (fun k hk => (q1.lt k hk).1)
    · by_cases hroom : n + m ≤ cap
      · have hr := run_append_room (P := Tryz.prog) w t ty e i E.und hi g n cap cur hg x m c news (by rw [hs]; omega) (hnews x rfl) h1 hroom (by rw [hs]; omega)
        rw [hrun] at hr
        cases hr
        exact .inl rfl
      · have holds : ∀ (j : Nat) u, xs[j]? = some u → w.cell? ((⟨g, 0, none⟩ : Addr).add j) = some u := hown.cells (g := g) rfl
        have hr := run_append_grow (P := Tryz.prog) w t ty e i z E.und hi hz ⟨g, 0, none⟩ n cap xs (by rw [hs]; exact hown.1) holds x m c news (by rw [hs]; omega) (hnews x rfl) (by omega) (by unfold maxLen at h63; omega) (growslice_fits (by omega) (by rw [hb]; exact hby))
        rw [hrun] at hr
        cases hr
        exact .inr (fun k hk => by simp [Value.ownBlock] at hk; omega)

/-- A row of the call's own, cell by cell. -/
theorem own_form {w : World} {base n : Nat} {e : TypeId} {v : Value} {xs : List Value} (h : w.ownsRow base e 1 v n xs) : ∃ a cap, v = .slice a n cap ∧ xs.length = n ∧
    (n = 0 ∨ ∃ g, a = some ⟨g, 0, none⟩ ∧ base ≤ g ∧ g < w.heap.size ∧ ∀ (j : Nat) u, xs[j]? = some u → w.cell? ⟨g, j, none⟩ = some u) := by
  have hl : xs.length = n := by simpa using h.1
  rcases h.2 with ⟨rfl, rfl⟩ | ⟨g, cap, cur, rfl, hb, hg, _⟩
  · exact ⟨none, 0, rfl, hl, .inl rfl⟩
  · refine ⟨_, cap, rfl, hl, .inr ⟨g, rfl, hb, (Array.getElem?_eq_some_iff.1 hg).1, fun j u hj => ?_⟩⟩
    have := h.cells (g := g) rfl j u hj
    rw [Go.WideShapes.add_plain] at this
    simpa using this



/-- A built-in append whose run is known. -/
theorem wpList_append_run {P : Program} {w w2 : World} {ops : Array Oper} {rest : List Oper} {o : Oper} {a : Act} {Q : Exit → Act → World → Prop} (hg : o.guard = none) (s x : Operand) (t u : TypeId)
    (hop : o.op = Op.call { callee := Callee.builtin Builtin.append, args := #[s, x], argTypes := #[t, u] }) {vs vx v : Value} (hs : a.eval s = vs) (hx : a.eval x = vx)
    (hrun : (Builtin.append_ #[t, u] o.type #[vs, vx]).run P w = .ok v w2) (hK : wpList P ops Q rest (a.put o.dst v) w2) : wpList P ops Q (o :: rest) a w := by
  refine wpList_plain hg fun K hK' => ?_
  unfold Oper.wp
  simp [execOp, hop, resolve, invoke, builtin, hs, hx, hrun, Result.andThen]
  exact hK' _ _ hK


/-- A built-in append of which it is known what it leaves. -/
theorem wpList_append_ex {P : Program} {w : World} {ops : Array Oper} {rest : List Oper} {o : Oper} {a : Act} {Q : Exit → Act → World → Prop} {R : Value → World → Prop} (hg : o.guard = none) (s x : Operand) (t u : TypeId)
    (hop : o.op = Op.call { callee := Callee.builtin Builtin.append, args := #[s, x], argTypes := #[t, u] }) {vs vx : Value} (hs : a.eval s = vs) (hx : a.eval x = vx)
    (hex : ∃ v w2, (Builtin.append_ #[t, u] o.type #[vs, vx]).run P w = .ok v w2 ∧ R v w2) (hK : ∀ v w2, R v w2 → wpList P ops Q rest (a.put o.dst v) w2) : wpList P ops Q (o :: rest) a w := by
  obtain ⟨v, w2, hrun, hr⟩ := hex
  exact wpList_append_run hg s x t u hop hs hx hrun (hK v w2 hr)


/-- A built-in append of which it is known what it leaves, in a region that draws its order. -/
theorem step_append_ex {P : Program} {ops : Array Oper} {o : Oper} {a : Act} {w : World} {K : Act → World → Prop} {Q : Exit → Act → World → Prop} {E : Prop} {R : Value → World → Prop} (hg : o.guard = none) (s x : Operand) (t u : TypeId)
    (hop : o.op = Op.call { callee := Callee.builtin Builtin.append, args := #[s, x], argTypes := #[t, u] }) {vs vx : Value} (hs : a.eval s = vs) (hx : a.eval x = vx)
    (hex : ∃ v w2, (Builtin.append_ #[t, u] o.type #[vs, vx]).run P w = .ok v w2 ∧ R v w2) (hK : ∀ v w2, R v w2 → K (a.put o.dst v) w2) :
    if Region.wanted o (yielded ops a.tmps) = true then Oper.wp P o a w K Q else E := by
  have hw : Region.wanted o (yielded ops a.tmps) = true := by simp [Region.wanted, hg]
  rw [if_pos hw]
  obtain ⟨v, w2, hrun, hr⟩ := hex
  unfold Oper.wp
  simp [execOp, hop, resolve, invoke, builtin, hs, hx, hrun, Result.andThen]
  exact hK _ _ hr

/-- An append of values written out. -/
theorem own_lit {t e : TypeId} {z : Value} {by' : Nat} (E : Elem t e z by') {w : World} {base n : Nat} {v : Value} {xs : List Value} (hown : w.ownsRow base e 1 v n xs) (hbase : base ≤ w.heap.size) (hn : n ≤ 1000000) (hby : by' ≤ 1000) (news : List Value) (m : Nat) (hm : news.length = m) (h9 : m ≤ 1000) (h1 : ∀ u ∈ news, u.oneCell' = true) (ty : TypeId) (arr : Array Value) (harr : arr = news.toArray) :
    ∃ v' w', (Builtin.append_ #[t, t] ty #[v, .slice (some ⟨w.heap.size, 0, none⟩) m m]).run Tryz.prog (w.alloc (.cells arr e)) = .ok v' w' ∧ w'.ownsRow base e 1 v' (n + m) (xs ++ news) ∧ w.grownBy w' v.ownBlock ∧ (v'.ownBlock = v.ownBlock ∨ ∀ k, v'.ownBlock = some k → w.heap.size ≤ k) := by
  subst harr
  have hmul : (n + m) * by' ≤ 1001000 * 1000 := Nat.mul_le_mul (by omega) hby
  obtain ⟨v', w', h1, h2, h3, h4⟩ := own_append E (c := m) (m := m) (hown.alloc (.cells news.toArray e)) (some ⟨w.heap.size, 0, none⟩) news hm (fun h => by cases h) (fun y hy j u hj => by
      cases hy
      rw [Go.WideShapes.add_plain]
      simp only [World.cell?, heap_alloc_new]
      simpa using hj) h1 (by unfold maxLen; omega) (by omega) (by simp; omega) ty
  refine ⟨v', w', h1, h2, ?_, h4.imp id (fun h k hk => by have := h k hk; simp at this; omega)⟩
  have h5 := World.grownBy_alloc w (.cells news.toArray e) v.ownBlock
  exact ⟨h3.os.trans h5.os, h3.tape.trans h5.tape, h3.output.trans h5.output, Nat.le_trans h5.size h3.size, fun k hk hne => (h3.block k (Nat.lt_of_lt_of_le hk h5.size) hne).trans (h5.block k hk hne)⟩

end Go.Proofs.YtaebknkjhhcneaaGreatDoor

namespace Go.Proofs.YtaebknkjhhcneaaGreatDoor
set_option linter.unusedVariables false
set_option linter.unusedSimpArgs false

/-- number: its value, and whether a digit stood there. -/
structure Num where
  value : Int
  begun : Bool
deriving DecidableEq

def Num.new : Num := ⟨0, false⟩

def Num.take (n : Num) (r most : Int) : Option Num :=
  if r < 48 ∨ 57 < r ∨ (n.begun = true ∧ n.value = 0) then none
  else if most < 10 * n.value + (r - 48) then none else some ⟨10 * n.value + (r - 48), true⟩

/-- A number that may have come of letters. -/
def Num.Ok (most : Int) (n : Num) : Prop := 0 ≤ n.value ∧ n.value ≤ most

theorem Num.take_ok {most r : Int} {n n' : Num} (h : n.take r most = some n') (hn : n.Ok most) : n'.Ok most := by
  unfold Num.take at h
  split at h
  · cases h
  · split at h
    · cases h
    · cases h
      unfold Num.Ok at *
      constructor <;> dsimp only <;> omega

theorem Num.take_high {most r : Int} {n : Num} (h : 128 ≤ r) : n.take r most = none := by
  unfold Num.take
  rw [if_pos (by omega)]

/-- dotted. -/
structure Dot where
  e0 : Int
  e1 : Int
  e2 : Int
  count : Int
  num : Num
deriving DecidableEq

def Dot.new : Dot := ⟨0, 0, 0, 0, .new⟩

def Dot.put (d : Dot) : Dot :=
  if d.count = 0 then { d with e0 := d.num.value, count := 1, num := .new }
  else if d.count = 1 then { d with e1 := d.num.value, count := 2, num := .new }
  else { d with e2 := d.num.value, count := 3, num := .new }

def Dot.take (d : Dot) (r : Int) : Option Dot :=
  if r ≠ 46 then (d.num.take r 255).map (fun n => { d with num := n })
  else if d.num.begun = false ∨ d.count = 3 then none else some d.put

def Dot.whole (d : Dot) : Bool := d.count = 3 && d.num.begun

def Dot.addr (d : Dot) : List Int := [d.e0, d.e1, d.e2, d.num.value]

def Byte (z : Int) : Prop := 0 ≤ z ∧ z < 256

structure Dot.Ok (d : Dot) : Prop where
  e0 : Byte d.e0
  e1 : Byte d.e1
  e2 : Byte d.e2
  count : 0 ≤ d.count ∧ d.count ≤ 3
  num : d.num.Ok 255

theorem Dot.ok_new : Dot.new.Ok := ⟨⟨by decide, by decide⟩, ⟨by decide, by decide⟩, ⟨by decide, by decide⟩, ⟨by decide, by decide⟩, ⟨by decide, by decide⟩⟩

theorem Dot.take_ok {d d' : Dot} {r : Int} (h : d.take r = some d') (hd : d.Ok) : d'.Ok := by
  obtain ⟨h0, h1, h2, hc, hn⟩ := hd
  unfold Dot.take at h
  split at h
  · cases hh : d.num.take r 255 with
    | none => simp [hh] at h
    | some n =>
      rw [hh] at h
      cases h
      exact ⟨h0, h1, h2, hc, Num.take_ok hh hn⟩
  · split at h
    · cases h
    · cases h
      have hv : Byte d.num.value := by unfold Num.Ok at hn; unfold Byte; omega
      unfold Dot.put
      have hz : Num.new.Ok 255 := ⟨by decide, by decide⟩
      split
      · exact ⟨hv, h1, h2, by dsimp only; omega, hz⟩
      · split
        · exact ⟨h0, hv, h2, by dsimp only; omega, hz⟩
        · exact ⟨h0, h1, hv, by dsimp only; omega, hz⟩

theorem Dot.take_high {r : Int} {d : Dot} (h : 128 ≤ r) : d.take r = none := by
  unfold Dot.take
  rw [if_pos (by omega), Num.take_high h]
  rfl

/-- What a hex digit counts. -/
def hexv (r : Int) : Option Int :=
  if 48 ≤ r ∧ r ≤ 57 then some (r - 48) else if 97 ≤ r ∧ r ≤ 102 then some (r - 97 + 10) else if 65 ≤ r ∧ r ≤ 70 then some (r - 65 + 10) else none

/-- grouped: the groups that are over, as bytes; the digits of the one that goes on. -/
structure Grp where
  ended : List Int
  part : List UInt8
  value : Int
  colons : Int
  gapped : Bool
  gap : Int
  dots : Bool
  tail : Dot
deriving DecidableEq

def Grp.new : Grp := ⟨[], [], 0, 0, false, 0, false, .new⟩

def Grp.room (g : Grp) : Int := if g.gapped then 14 - g.ended.length else 16 - g.ended.length

def Dot.takes (d : Dot) : List UInt8 → Option Dot
  | [] => some d
  | c :: l => (d.take c.toNat).bind (fun d' => d'.takes l)

def Grp.colon (g : Grp) : Option Grp :=
  if g.room ≤ 2 then none else some { g with ended := g.ended ++ [g.value / 256, g.value % 256], part := [], value := 0, colons := 1 }

def Grp.second (g : Grp) : Option Grp :=
  if g.gapped then none
  else if g.colons = 0 then some { g with colons := 1 }
  else some { g with colons := 2, gapped := true, gap := g.ended.length }

def Grp.lone (g : Grp) : Bool := g.colons = 1 && g.ended.length = 0 && !g.gapped

def Grp.digit (g : Grp) (r : Int) : Option Grp :=
  match hexv r with
  | none => none
  | some x =>
    if g.lone = true ∨ g.room = 0 ∨ g.part.length = 4 then none
    else some { g with part := g.part ++ [UInt8.ofNat r.toNat], value := g.value * 16 % 65536 + x, colons := 0 }

def Grp.dot (g : Grp) : Option Grp :=
  if g.room < 4 ∨ (g.gapped = false ∧ 4 < g.room) then none
  else (g.tail.takes g.part).bind (fun d => (d.take 46).map (fun d' => { g with dots := true, tail := d' }))

def Grp.take (g : Grp) (r : Int) : Option Grp :=
  if g.dots then (g.tail.take r).map (fun d => { g with tail := d })
  else if r = 58 then (if g.part = [] then g.second else g.colon)
  else if r = 46 then g.dot
  else g.digit r

def Grp.whole (g : Grp) : Bool :=
  if g.dots then g.tail.whole
  else if g.gapped then g.part ≠ [] || g.colons = 2
  else g.part ≠ [] && g.room = 2

def Grp.given (g : Grp) : List Int :=
  if g.dots then g.ended ++ g.tail.addr else if g.part ≠ [] then g.ended ++ [g.value / 256, g.value % 256] else g.ended

def Grp.addr (g : Grp) : List Int :=
  if g.gapped then g.given.take g.gap.toNat ++ List.replicate (16 - g.given.length) 0 ++ g.given.drop g.gap.toNat
  else g.given

/-- A reader of texts: how it takes a letter, and whether what was taken is whole. -/
structure Reader (σ : Type) where
  take : σ → Int → Option σ
  whole : σ → Bool
  high : ∀ s r, 128 ≤ r → take s r = none

inductive End (σ : Type) where
  | bad (at_ : Nat)
  | good (s : σ)

def Reader.read {σ : Type} (R : Reader σ) : List UInt8 → Nat → σ → End σ
  | [], pos, st => if R.whole st then .good st else .bad pos
  | c :: l, pos, st => match R.take st c.toNat with
    | none => .bad pos
    | some st' => R.read l (pos + 1) st'

theorem hexv_high {r : Int} (h : 128 ≤ r) : hexv r = none := by
  unfold hexv
  rw [if_neg (by omega), if_neg (by omega), if_neg (by omega)]

theorem Grp.take_high {r : Int} {g : Grp} (h : 128 ≤ r) : g.take r = none := by
  unfold Grp.take
  split
  · rw [Dot.take_high h]; rfl
  · rw [if_neg (by omega), if_neg (by omega)]
    unfold Grp.digit
    rw [hexv_high h]

def dotReader : Reader Dot := ⟨Dot.take, Dot.whole, fun _ _ h => Dot.take_high h⟩
def grpReader : Reader Grp := ⟨Grp.take, Grp.whole, fun _ _ h => Grp.take_high h⟩

/-- A prefix's text: the address's reader, and the number behind a slash. -/
structure Pre (σ : Type) where
  addr : σ
  slashed : Bool
  num : Num

def preTake {σ : Type} (R : Reader σ) (most : Int) (p : Pre σ) (r : Int) : Option (Pre σ) :=
  if p.slashed then (p.num.take r most).map (fun n => { p with num := n })
  else if r = 47 ∧ R.whole p.addr = true then some { p with slashed := true }
  else (R.take p.addr r).map (fun a => { p with addr := a })

def preReader {σ : Type} (R : Reader σ) (most : Int) : Reader (Pre σ) := ⟨preTake R most, fun p => p.num.begun, fun p r h => by
  unfold preTake
  split
  · rw [Num.take_high h]; rfl
  · rw [if_neg (by omega), R.high _ _ h]; rfl⟩

def parse4 (l : List UInt8) : List Int × Nat × Int :=
  match dotReader.read l 0 .new with
  | .bad n => ([0, 0, 0, 0], n, 20)
  | .good d => (d.addr, 0, 0)

def parse6 (l : List UInt8) : List Int × Nat × Int :=
  match grpReader.read l 0 .new with
  | .bad n => (List.replicate 16 0, n, 20)
  | .good g => (g.addr, 0, 0)

theorem known6 : parse6 [50, 48, 48, 49, 58, 68, 66, 56, 58, 58, 49] = ([32, 1, 13, 184, 0, 0, 0, 0, 0, 0, 0, 0, 0, 0, 0, 1], 0, 0) := by decide
theorem known4 : parse4 [49, 57, 50, 46, 48, 46, 50, 46, 49] = ([192, 0, 2, 1], 0, 0) := by decide

end Go.Proofs.YtaebknkjhhcneaaGreatDoor

namespace Go.Proofs.YtaebknkjhhcneaaGreatDoor
set_option linter.unusedVariables false
set_option linter.unusedSimpArgs false
open Go Go.RowKit

def NumTook (x : Option Num) (b o : Nat) (w : World) (e : Ending) (w' : World) : Prop :=
  match x with
  | none => e = .returned (.bool false) ∧ w' = w
  | some n' => e = .returned (.bool true) ∧ w' = (w.setCell ⟨b, o, none⟩ (.int .i64 n'.value)).setCell ⟨b, o + 1, none⟩ (.bool n'.begun)

set_option maxHeartbeats 2000000 in
set_option maxRecDepth 100000 in
theorem num_take (n : Num) (r most : Int) (b o : Nat) (w : World) (hn : n.Ok most) (hm : most ≤ 255) (hr : 0 ≤ r ∧ r < 2147483648)
    (h0 : w.cell? ⟨b, o, none⟩ = some (.int .i64 n.value)) (h1 : w.cell? ⟨b, o + 1, none⟩ = some (.bool n.begun)) (hf : ∀ i, w.frozen? ⟨b, i, none⟩ = false) :
    Calls Tryz.prog 235 #[.pointer (some ⟨b, o, none⟩), .int .i32 r, .int .i64 most] w fun e w' => NumTook (n.take r most) b o w e w' := by
  obtain ⟨v, g⟩ := n
  obtain ⟨hv0, hv1⟩ := hn
  dsimp only at *
  have hno : (r < 48 ∨ 57 < r ∨ (g = true ∧ v = 0)) → NumTook (Num.take ⟨v, g⟩ r most) b o w (.returned (.bool false)) w := fun h => by
    unfold Num.take; rw [if_pos h]; exact ⟨rfl, rfl⟩
  have hbig : ¬ (r < 48 ∨ 57 < r ∨ (g = true ∧ v = 0)) → most < 10 * v + (r - 48) → NumTook (Num.take ⟨v, g⟩ r most) b o w (.returned (.bool false)) w := fun h h' => by
    unfold Num.take; rw [if_neg h, if_pos h']; exact ⟨rfl, rfl⟩
  have hyes : ¬ (r < 48 ∨ 57 < r ∨ (g = true ∧ v = 0)) → ¬ most < 10 * v + (r - 48) → NumTook (Num.take ⟨v, g⟩ r most) b o w (.returned (.bool true)) ((w.setCell ⟨b, o, none⟩ (.int .i64 (10 * v + (r - 48)))).setCell ⟨b, o + 1, none⟩ (.bool true)) := fun h h' => by
    unfold Num.take; rw [if_neg h, if_neg h']; exact ⟨rfl, rfl⟩
  have HA : Hid _ := hno
  have HB : Hid _ := hbig
  have HC : Hid _ := hyes
  clear hno hbig hyes
  generalize Num.take ⟨v, g⟩ r most = X at HA HB HC ⊢
  go_enter Tryz.func235, Tryz.ntmps235
  go_wp2
  all_goals go_ret
  all_goals first
    | (refine HA.out ?_; simp_all <;> omega)
    | (refine HB.out ?_ ?_ <;> simp_all <;> omega)
    | (refine HC.out ?_ ?_ <;> simp_all <;> omega)

/-- The six cells of a dotted. -/
structure DotAt (d : Dot) (w : World) (b o : Nat) : Prop where
  c0 : w.cell? ⟨b, o, none⟩ = some (.int .u8 d.e0)
  c1 : w.cell? ⟨b, o + 1, none⟩ = some (.int .u8 d.e1)
  c2 : w.cell? ⟨b, o + 2, none⟩ = some (.int .u8 d.e2)
  c3 : w.cell? ⟨b, o + 3, none⟩ = some (.int .i64 d.count)
  c4 : w.cell? ⟨b, o + 4, none⟩ = some (.int .i64 d.num.value)
  c5 : w.cell? ⟨b, o + 5, none⟩ = some (.bool d.num.begun)

def DotTook (x : Option Dot) (b o : Nat) (w : World) (e : Ending) (w' : World) : Prop :=
  e = .returned (.bool x.isSome) ∧ Wrote b o 6 w w' ∧ ∀ d, x = some d → DotAt d w' b o

set_option maxHeartbeats 4000000 in
set_option maxRecDepth 100000 in
theorem dot_take (d : Dot) (r : Int) (b o : Nat) (w : World) (hd : d.Ok) (hr : 0 ≤ r ∧ r < 2147483648) (hat : DotAt d w b o) (hf : ∀ i, w.frozen? ⟨b, i, none⟩ = false) :
    Calls Tryz.prog 229 #[.pointer (some ⟨b, o, none⟩), .int .i32 r] w fun e w' => DotTook (d.take r) b o w e w' := by
  obtain ⟨c0, c1, c2, c3, c4, c5⟩ := hat
  obtain ⟨e0, e1, e2, cnt, ⟨v, g⟩⟩ := d
  obtain ⟨k0, k1, k2, kc, kn⟩ := hd
  dsimp only at *
  have hf' : ∀ i, w.drew.frozen? ⟨b, i, none⟩ = false := hf
  by_cases h46 : r = 46
  · subst h46
    cases g with
    | false =>
      go_enter Tryz.func229, Tryz.ntmps229
      go_wp2
      go_ret
      exact ⟨rfl, Wrote.refl _ _ _ _, fun d hd => by simp [Dot.take] at hd⟩
    | true =>
      by_cases h3 : cnt = 3
      · subst h3
        go_enter Tryz.func229, Tryz.ntmps229
        go_wp2
        go_ret
        exact ⟨rfl, Wrote.refl _ _ _ _, fun d hd => by simp [Dot.take] at hd⟩
      · have hv : 0 ≤ v ∧ v ≤ 255 := kn
        have hcase : cnt = 0 ∨ cnt = 1 ∨ cnt = 2 := by omega
        clear kc h3 kn
        rcases hcase with rfl | rfl | rfl
        all_goals
          go_enter Tryz.func229, Tryz.ntmps229
          go_wp2
        all_goals try go_region
        all_goals try go_wp2
        all_goals go_ret
        all_goals refine ⟨rfl, ((((Wrote.refl _ _ _ _).set (by omega) _).set (by omega) _).set (by omega) _).set (by omega) _ |>.drew, fun d hd => ?_⟩
        all_goals cases hd
        all_goals constructor <;> dsimp only [Dot.put, Num.new] <;> first | go_cell | (simp; go_cell)
  · have hne : (r != 46) = true := by simpa using h46
    have hN := num_take ⟨v, g⟩ r 255 b (o + 4) w kn (by decide) hr c4 c5 hf
    have hX : Dot.take ⟨e0, e1, e2, cnt, ⟨v, g⟩⟩ r = (Num.take ⟨v, g⟩ r 255).map (fun n => ⟨e0, e1, e2, cnt, n⟩) := by
      unfold Dot.take
      rw [if_pos h46]
    rw [hX]
    clear hX
    generalize Num.take ⟨v, g⟩ r 255 = x at hN ⊢
    go_enter Tryz.func229, Tryz.ntmps229
    go_wp2_with fail
    refine hN.mono ?_
    intro e w' hT
    clear hN
    cases x with
    | none =>
      obtain ⟨rfl, rfl⟩ := hT
      go_wp2
      go_ret
      exact ⟨rfl, Wrote.refl _ _ _ _, fun d hd => by cases hd⟩
    | some n =>
      obtain ⟨rfl, rfl⟩ := hT
      go_wp2
      go_ret
      refine ⟨rfl, ((Wrote.refl _ _ _ _).set (by omega) _).set (by omega) _, fun d hd => ?_⟩
      cases hd
      constructor <;> dsimp only <;> go_cell
end Go.Proofs.YtaebknkjhhcneaaGreatDoor
