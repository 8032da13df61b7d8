/-
  The contracts of bytes.Clone and of the program's Put.
  Rows that the document's functions make by themselves: numbers appended one by one, and bytes of them.
  The contracts of the document's bits and bytes: all bits of a row, and the row of bits.
  The contract of the document's Put: it is the program's.
-/
import Derived.Test.YtaebknkjhhcneaaGreatDoorFold09
import Derived.Lib.SliceRun
import Derived.OwnWalk
import Derived.Deep.RegionLaw
namespace Go.Proofs.YtaebknkjhhcneaaGreatDoor.Fld
set_option linter.unusedVariables false
set_option linter.unusedSimpArgs false
open Go Go.RowKit
attribute [local go_sem] Oper.semAt_some

/-- A built-in append whose run is known. -/
theorem wpList_append_run {P : Program} {w w2 : World} {ops : Array Oper} {rest : List Oper} {o : Oper} {a : Act} {Q : Exit → Act → World → Prop} (hg : o.guard = none) (s x : Operand) (t u : TypeId)
    (hop : o.op = Op.call { callee := Callee.builtin Builtin.append, args := #[s, x], argTypes := #[t, u] }) {vs vx v : Value} (hs : a.eval s = vs) (hx : a.eval x = vx)
    (hrun : (Builtin.append_ #[t, u] o.type #[vs, vx]).run P w = .ok v w2) (hK : wpList P ops Q rest (a.put o.dst v) w2) : wpList P ops Q (o :: rest) a w := by
  refine wpList_plain hg fun K hK' => ?_
  unfold Oper.wp
  simp [execOp, hop, resolve, invoke, builtin, hs, hx, hrun, Result.andThen]
  exact hK' _ _ hK

/-- A new row of bytes. -/
theorem own_new (w : World) (zs : List Int) (us : Array Value) (hu : ∀ j, j < zs.length → us[j]? = some (.int .u8 (zs[j]?.getD 0))) :
    OwnG w.heap.size (w.alloc (.cells us 5)) w.heap.size zs := by
  have hn : (w.alloc (.cells us 5)).heap[w.heap.size]? = some (.cells us 5) := by rw [← World.alloc_eq]; simp
  refine ⟨Nat.le_refl _, ⟨us, hn⟩, fun j hj => ?_⟩
  simp only [World.cell?]
  rw [hn]
  simpa using hu j hj

/-- 'append([]byte{}, v...)': a copy of its own. -/
theorem BytesAt.copied {w : World} {v : Value} {zs : List Int} (h : BytesAt w.heap.size w v zs) (B : Nat) (ty : TypeId) :
    ∃ a cap w2, (Builtin.append_ #[127, 127] ty #[.slice (some ⟨B, 0, none⟩) 0 0, v]).run Tryz.prog w = .ok (.slice a zs.length cap) w2 ∧ (zs.length = 0 ∨ ∃ g, a = some ⟨g, 0, none⟩ ∧ OwnG w.heap.size w2 g zs) ∧ Below w.heap.size w w2 := by
  obtain ⟨i, hi, hz, hs, hb⟩ := info_parts info_u8
  obtain ⟨hf, hl, a, cap, rfl, hv⟩ := h
  have src : ∃ news : List Value, news = zs.map (fun z => Value.int .u8 z) ∧ Src Tryz.prog i.size 127 (.slice a zs.length cap) zs.length news w := by
    refine ⟨_, rfl, ?_⟩
    rw [hs]
    rcases hv with hv | ⟨b, off, rfl, hlt, hc⟩
    · obtain rfl : zs = [] := List.length_eq_zero_iff.1 hv
      cases a with
      | none => exact Src.ofNil w Tryz.underlying127 cap
      | some x => exact Src.ofSlice w Tryz.underlying127 x 0 cap [] rfl (fun j u hj => by simp at hj) (fun u hu => by cases hu)
    · refine Src.ofSlice w Tryz.underlying127 _ _ cap _ (by simp) (fun j u hj => ?_) (fun u hu => ?_)
      · rw [List.getElem?_map] at hj
        obtain ⟨z, hz, rfl⟩ := Option.map_eq_some_iff.1 hj
        have hjl := (List.getElem?_eq_some_iff.1 hz).1
        have := hc j hjl
        rw [hz] at this
        rw [Go.WideShapes.add_plain]
        exact this
      · obtain ⟨z, _, rfl⟩ := List.mem_map.1 hu
        rfl
  obtain ⟨news, hnews, hsrc⟩ := src
  by_cases h0 : zs.length = 0
  · obtain rfl : zs = [] := List.length_eq_zero_iff.1 h0
    have hr := run_append_room_src w 127 127 ty 5 i Tryz.underlying127 hi B 0 0 0 _ 0 news hsrc (Nat.le_refl _) (fun j hj => by rw [hnews] at hj; simp at hj) (fun j hj => by rw [hnews] at hj; simp at hj)
    subst hnews
    exact ⟨_, _, _, hr, .inl rfl, Below.refl _ _⟩
  · have hold : (Builtin.firstCells i.size 0 (.slice (some ⟨B, 0, none⟩) 0 0)).run Tryz.prog w.drew = .ok ([] : List Value).toArray w.drew := by
      exact run_firstCells_some w.drew i.size 0 ⟨B, 0, none⟩ 0 0 [] (by simp) (fun j u hj => by simp at hj)
    have hr := run_append_grow_src w 127 127 ty 5 i (.int .u8 0) Tryz.underlying127 hi hz (some ⟨B, 0, none⟩) 0 0 [] hold _ zs.length news hsrc (by omega) (by omega) (by
      rw [hb]
      have : Builtin.nextslicecap (0 + zs.length) 0 = zs.length := by
        unfold Builtin.nextslicecap
        simp
        intro e
        rw [e]; rfl
      omega)
    simp only [Nat.zero_add, List.nil_append] at hr
    refine ⟨_, _, _, hr, .inr ⟨_, rfl, own_new w.drew zs _ (fun j hj => ?_)⟩, ((Below.refl _ w).drew).alloc (Nat.le_refl _) _⟩
    rw [hnews]
    simp [Array.getElem?_append, hj]

set_option maxHeartbeats 400000 in
theorem write_none (u : Value) (p v : Int) (w : World) :
    Calls Tryz.prog 189 #[u, .int .i64 p, .int .i64 0, .int .u64 v] w fun e w' => e = .returned (.tuple #[]) ∧ w' = w := by
  go_enter Tryz.func189, Tryz.ntmps189
  go_wp2
  go_loopw [11] (fun i wr => i = .int .i64 0 ∧ wr = w) (fun i _ => 0)
  case atStart => exact ⟨rfl, rfl⟩
  case round =>
    obtain ⟨rfl, rfl⟩ := hrel
    go_wp2
    exact bodyPost_end (results_none rfl _ _ _) rfl ⟨rfl, rfl⟩

def putOk (zs : List Int) (at' n : Int) (v : Nat) : Bool := okG zs.length at' n && !wideB v n.toNat
def putL (zs : List Int) (at' n : Int) (v : Nat) : List Int := if putOk zs at' n v then writeL zs at'.toNat n.toNat v n.toNat else []
def putE (zs : List Int) (at' n : Int) (v : Nat) : Int := if okG zs.length at' n then (if wideB v n.toNat then 1 else 0) else 30

theorem nil_bytes (n₀ : Nat) (w : World) : BytesAt n₀ w (.slice none 0 0) [] := ⟨fun z hz => by simp at hz, by simp, none, 0, rfl, .inl rfl⟩

end Go.Proofs.YtaebknkjhhcneaaGreatDoor.Fld

namespace Go.Proofs.YtaebknkjhhcneaaGreatDoor.Fld
set_option linter.unusedVariables false
set_option linter.unusedSimpArgs false
open Go Go.RowKit
attribute [local go_sem] Oper.semAt_some

/-- t is the type of slices of e, whose elements take one cell and by' bytes. -/
structure Elem (t e : TypeId) (z : Value) (by' : Nat) : Prop where
  und : Tryz.prog.underlying t = some (.slice e)
  inf : (Tryz.prog.info? e).map (fun i => (i.zero, i.size, i.bytes)) = some (some z, 1, by')
  one : z.cells.size = 1

theorem elem_u8 : Elem 127 5 (.int .u8 0) 1 := ⟨Tryz.underlying127, by kernel_rfl, rfl⟩

/-- An append to a slice of the call's own: a longer row of its own, in the same block or in a new one. -/
theorem own_append {t e : TypeId} {z : Value} {by' : Nat} (E : Elem t e z by') {w : World} {base n m c : Nat} {v : Value} {xs : List Value} (hown : w.ownsRow base e 1 v n xs) (a : Option Addr) (news : List Value) (hl : news.length = m)
    (ha : a = none → m = 0) (hnews : ∀ x, a = some x → ∀ (j : Nat) u, news[j]? = some u → w.cell? (x.add j) = some u) (h1 : ∀ u ∈ news, u.oneCell' = true) (h63 : n + m ≤ maxLen) (hby : (n + m) * by' ≤ 140737488355328) (hbase : base ≤ w.heap.size) (ty : TypeId) :
    ∃ v' w', (Builtin.append_ #[t, t] ty #[v, .slice a m c]).run Tryz.prog w = .ok v' w' ∧ w'.ownsRow base e 1 v' (n + m) (xs ++ news) ∧ w.grownBy w' v.ownBlock ∧ (v'.ownBlock = v.ownBlock ∨ ∀ k, v'.ownBlock = some k → w.heap.size ≤ k) := by
  obtain ⟨i, hi, hz, hs, hb⟩ := info_parts E.inf
  cases a with
  | none =>
    obtain rfl : m = 0 := ha rfl
    obtain rfl : news = [] := List.length_eq_zero_iff.1 hl
    refine ⟨v, w, ?_, by simpa using hown, ⟨rfl, rfl, rfl, Nat.le_refl _, fun _ _ _ => rfl⟩, .inl rfl⟩
    rcases hown.2 with ⟨rfl, rfl⟩ | ⟨g, cap, cur, rfl, _, hg, hnc, _, _, _⟩
    · simp [Builtin.append_, run_underlying E.und, sizeOf, typeInfo, hi, Builtin.lenOf, Builtin.firstCells]
    · simp [Builtin.append_, run_underlying E.und, sizeOf, typeInfo, hi, Builtin.lenOf, Builtin.firstCells, hnc, storeCells]
  | some x =>
    obtain ⟨v', w', hrun, r1, r2, r3⟩ := run_append_own (P := Tryz.prog) w base t ty e i z 1 by' E.und hi hz hs hb E.one (by decide) v n xs hown x m c news (by omega) (hnews x rfl) h1 h63 hby hbase
    refine ⟨v', w', hrun, r1, r2, ?_⟩
    rcases hown.2 with ⟨rfl, rfl⟩ | ⟨g, cap, cur, rfl, hbg, hg, hnc, hcm, hcs, htake⟩
    · obtain rfl : xs = [] := List.length_eq_zero_iff.1 (by simpa using hown.1)
      obtain ⟨v2, w2, hrun2, q1, _, _⟩ := run_append_own (P := Tryz.prog) w w.heap.size t ty e i z 1 by' E.und hi hz hs hb E.one (by decide) _ 0 [] (World.ownsRow_nil w _ e 1) x m c news (by omega) (hnews x rfl) h1 h63 hby (Nat.le_refl _)
      rw [hrun] at hrun2
      cases hrun2
      exact .inr (fun k hk => (q1.lt k hk).1)
    · by_cases hroom : n + m ≤ cap
      · have hr := run_append_room (P := Tryz.prog) w t ty e i E.und hi g n cap cur hg x m c news (by rw [hs]; omega) (hnews x rfl) h1 hroom (by rw [hs]; omega)
        rw [hrun] at hr
        cases hr
        exact .inl rfl
      · have holds : ∀ (j : Nat) u, xs[j]? = some u → w.cell? ((⟨g, 0, none⟩ : Addr).add j) = some u := hown.cells (g := g) rfl
        have hr := run_append_grow (P := Tryz.prog) w t ty e i z E.und hi hz ⟨g, 0, none⟩ n cap xs (by rw [hs]; exact hown.1) holds x m c news (by rw [hs]; omega) (hnews x rfl) (by omega) (by unfold maxLen at h63; omega) (growslice_fits (by omega) (by rw [hb]; exact hby))
        rw [hrun] at hr
        cases hr
        exact .inr (fun k hk => by simp [Value.ownBlock] at hk; omega)

/-- A row of the call's own, cell by cell. -/
theorem own_form {w : World} {base n : Nat} {e : TypeId} {v : Value} {xs : List Value} (h : w.ownsRow base e 1 v n xs) : ∃ a cap, v = .slice a n cap ∧ xs.length = n ∧
    (n = 0 ∨ ∃ g, a = some ⟨g, 0, none⟩ ∧ base ≤ g ∧ g < w.heap.size ∧ ∀ (j : Nat) u, xs[j]? = some u → w.cell? ⟨g, j, none⟩ = some u) := by
  have hl : xs.length = n := by simpa using h.1
  rcases h.2 with ⟨rfl, rfl⟩ | ⟨g, cap, cur, rfl, hb, hg, _⟩
  · exact ⟨none, 0, rfl, hl, .inl rfl⟩
  · refine ⟨_, cap, rfl, hl, .inr ⟨g, rfl, hb, (Array.getElem?_eq_some_iff.1 hg).1, fun j u hj => ?_⟩⟩
    have := h.cells (g := g) rfl j u hj
    rw [Go.WideShapes.add_plain] at this
    simpa using this

/-- Numbers as values. -/
def numsV (l : List Nat) : List Value := l.map (fun z => Value.int .u64 (z : Nat))

/-- A row of numbers of one's own, in its block. -/
structure OwnW (base : Nat) (w : World) (g : Nat) (l : List Nat) : Prop where
  low : base ≤ g
  typed : ∃ cs, w.heap[g]? = some (.cells cs 58 (0, 0))
  cell : ∀ j, j < l.length → w.cell? ⟨g, j, none⟩ = some (.int .u64 (l[j]?.getD 0 : Nat))

theorem OwnW.open {base g : Nat} {w : World} {l : List Nat} (h : OwnW base w g l) (i : Nat) : w.frozen? ⟨g, i, none⟩ = false := by
  obtain ⟨cs, hc⟩ := h.typed
  simp [World.frozen?, hc]
theorem OwnW.block {base g : Nat} {w : World} {l : List Nat} (h : OwnW base w g l) : g < w.heap.size := by
  obtain ⟨cs, hc⟩ := h.typed
  exact (Array.getElem?_eq_some_iff.1 hc).1
theorem OwnW.set {base g : Nat} {w : World} {l : List Nat} (h : OwnW base w g l) (j : Nat) (hj : j < l.length) (z : Nat) : OwnW base (w.setCell ⟨g, j, none⟩ (.int .u64 z)) g (l.set j z) := by
  refine ⟨h.low, ?_, fun i hi => ?_⟩
  · obtain ⟨cs, hc⟩ := h.typed
    exact ⟨cs.setIfInBounds j (.int .u64 z), by simp [World.setCell, Array.getElem?_modify, hc]⟩
  · by_cases e : i = j
    · subst e
      rw [List.getElem?_set_self hj]
      have := h.cell i hj
      obtain ⟨cs, hc⟩ := h.typed
      simp only [World.cell?, hc] at this
      simp only [World.cell?, World.setCell, Array.getElem?_modify, hc]
      have hlt := (Array.getElem?_eq_some_iff.1 this).1
      simp [hlt]
    · rw [List.getElem?_set_ne (by omega), World.cell?_setCell_other _ _ _ _ (by intro c; injection c; omega)]
      exact h.cell i (by simpa using hi)

/-- An own row of numbers lies in its block. -/
theorem own_nums {w : World} {base n : Nat} {v : Value} {l : List Nat} (h : w.ownsRow base 58 1 v n (numsV l)) : ∃ a cap, v = .slice a l.length cap ∧ (l.length = 0 ∨ ∃ g, a = some ⟨g, 0, none⟩ ∧ OwnW base w g l) := by
  have hl : l.length = n := by simpa [numsV] using h.1
  subst hl
  rcases h.2 with ⟨rfl, h0⟩ | ⟨g, cap, cur, rfl, hb, hg, _⟩
  · exact ⟨none, 0, by rw [h0], .inl h0⟩
  · refine ⟨_, cap, rfl, .inr ⟨g, rfl, hb, ⟨cur, hg⟩, fun j hj => ?_⟩⟩
    have := h.cells (g := g) rfl j (.int .u64 (l[j]?.getD 0 : Nat)) (by simp [numsV, hj])
    rw [Go.WideShapes.add_plain] at this
    simpa using this

/-- A made row of bytes. -/
theorem own_made {w : World} {base n g : Nat} {cap : Nat} (h : w.ownsRow base 5 1 (.slice (some ⟨g, 0, none⟩) n cap) n (madeCells (Value.int .u8 0).cells (n * 1)).toList) : OwnG base w g (List.replicate n 0) := by
  rcases h.2 with ⟨e, h0⟩ | ⟨g', cap', cur, e, hb, hg, _⟩
  · cases e
  · cases e
    refine ⟨hb, ⟨cur, hg⟩, fun j hj => ?_⟩
    simp only [List.length_replicate] at hj
    have := h.cells (g := g) rfl j (.int .u8 0) (by simp only [madeCells, Nat.mul_one, Array.toList_map, Array.toList_range, List.getElem?_map, List.getElem?_range hj, Option.map_some, Option.some.injEq]; show (#[Value.int .u8 0])[j % 1]! = _; rw [Nat.mod_one]; rfl)
    rw [Go.WideShapes.add_plain] at this
    rw [List.getElem?_replicate]
    simpa [hj] using this

end Go.Proofs.YtaebknkjhhcneaaGreatDoor.Fld

namespace Go.Proofs.YtaebknkjhhcneaaGreatDoor.Fld
set_option linter.unusedVariables false
set_option linter.unusedSimpArgs false
open Go Go.RowKit
attribute [local go_sem] Oper.semAt_some

/-- The first k bits of a row. -/
def bitsTo (zs : List Int) (k : Nat) : List Nat := (List.range k).map (bitN zs)
theorem bitsTo_succ (zs : List Int) (k : Nat) : numsV (bitsTo zs (k + 1)) = numsV (bitsTo zs k) ++ [.int .u64 (bitN zs k : Nat)] := by
  simp [numsV, bitsTo, List.range_succ]

/-- The slice value v holds the numbers l, in a block below n₀. -/
def NumsAt (n₀ : Nat) (w : World) (v : Value) (l : List Nat) : Prop :=
  ∃ a cap, v = .slice a l.length cap ∧ (l.length = 0 ∨ ∃ g, a = some ⟨g, 0, none⟩ ∧ g < n₀ ∧ ∀ j, j < l.length → w.cell? ⟨g, j, none⟩ = some (.int .u64 (l[j]?.getD 0 : Nat)))

theorem own_numsAt {w : World} {base n : Nat} {v : Value} {l : List Nat} (h : w.ownsRow base 58 1 v n (numsV l)) : NumsAt w.heap.size w v l := by
  obtain ⟨a, cap, rfl, hz⟩ := own_nums h
  refine ⟨a, cap, rfl, hz.imp id ?_⟩
  rintro ⟨g, rfl, ho⟩
  exact ⟨g, rfl, ho.block, ho.cell⟩

theorem shl_tab (k : Nat) (hk : k < 8) : ((1 : Int) * 2 ^ k) = ((2 ^ k : Nat) : Int) := by simp
theorem wrap_tab : ∀ k, k < 8 → IntKind.u8.wrap (2 ^ k) = 2 ^ k := by decide
theorem pow_tab : ∀ k, k < 8 → (0 : Int) < 2 ^ k ∧ (2 : Int) ^ k ≤ 128 := by decide

end Go.Proofs.YtaebknkjhhcneaaGreatDoor.Fld

namespace Go.Proofs.YtaebknkjhhcneaaGreatDoor.Fld
set_option linter.unusedVariables false
set_option linter.unusedSimpArgs false
open Go Go.RowKit
attribute [local go_sem] Oper.semAt_some

def setBits (l : List Nat) (p m v : Nat) : Nat → List Nat
  | 0 => l
  | k + 1 => (setBits l p m v k).set (p + k) (bk v (m - 1 - k))
@[simp] theorem setBits_length (l : List Nat) (p m v k : Nat) : (setBits l p m v k).length = l.length := by
  induction k with
  | zero => rfl
  | succ k ih => simp [setBits, ih]
theorem setBits_get (l : List Nat) (p m v k q : Nat) (h : p + k ≤ l.length) : (setBits l p m v k)[q]? = if p ≤ q ∧ q < p + k then some (bk v (m - 1 - (q - p))) else l[q]? := by
  induction k with
  | zero => have : ¬ (p ≤ q ∧ q < p + 0) := by omega
            simp [setBits]; omega
  | succ k ih =>
    rw [setBits]
    by_cases c : p + k = q
    · subst c
      rw [List.getElem?_set_self (by simp; omega), if_pos (by omega), show p + k - p = k by omega]
    · rw [List.getElem?_set_ne c, ih (by omega)]
      by_cases d : p ≤ q ∧ q < p + k
      · rw [if_pos d, if_pos (by omega)]
      · rw [if_neg d, if_neg (by omega)]

theorem bit01 (b : Nat) (h : b < 2) : (if b = 1 then 1 else 0) = b := by
  have : b = 0 ∨ b = 1 := by omega
  rcases this with rfl | rfl <;> rfl

theorem put_pure (zs : List Int) (hf : FitB zs) (p m v : Nat) (h : p + m ≤ 8 * zs.length) : packL (setBits (bitsL zs) p m v m) (setBits (bitsL zs) p m v m).length = writeL zs p m v m := by
  have hlen : (packL (setBits (bitsL zs) p m v m) (setBits (bitsL zs) p m v m).length).length = zs.length := by simp; omega
  refine row_ext (by rw [hlen]; simp) (packL_fit _ _) (writeL_fit hf _ _ _ _) fun q hq => ?_
  rw [hlen] at hq
  rw [bitN_packL _ _ _ (Nat.le_refl _), bitN_writeL hf _ _ _ _ _ h, setBits_get _ _ _ _ _ _ (by simp; omega)]
  by_cases c : p ≤ q ∧ q < p + m
  · rw [if_pos c, if_pos c]
    have := bit01 (bk v (m - 1 - (q - p))) (bk_lt _ _)
    simpa [hq] using this
  · rw [if_neg c, if_neg c, bitsL_get zs q hq]
    have := bit01 (bitN zs q) (bitN_lt _ _)
    simpa [hq] using this

end Go.Proofs.YtaebknkjhhcneaaGreatDoor.Fld
