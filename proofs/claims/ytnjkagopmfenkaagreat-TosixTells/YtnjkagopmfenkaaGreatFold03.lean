/-
  Slices of bytes in a walk: their text, a copy of them by append, and what an argument's reading gives.
  Slices that a call makes by itself and appends to: what an append leaves, and where its row lies.
  The contracts of the document's answer for package sum: words, added, even, Alike.
  The contracts of the document's answer for package sum: Update, Neutral.
-/
import Derived.Test.YtnjkagopmfenkaaGreatFold02
import Derived.Deep.AppendSrc
import Derived.Laws.BytesArg
import Derived.OpenShut
import Derived.Laws.AppendOwn
import Derived.Test.YtnjkagopmfenkaaGreatFold01
namespace Go.Proofs.YtnjkagopmfenkaaGreat
open Go Go.RowKit Go.Shelf

/-- The text of a slice of bytes. -/
theorem BytesAt.text {n₀ : Nat} {w : World} {v : Value} {zs : List Int} (h : BytesAt n₀ w v zs) : (convert 25 9 v).run Tryz.prog w = .ok (.string (strOfNums zs)) w := by
  obtain ⟨_, _, a, cap, rfl, hz⟩ := h
  rcases hz with hz | ⟨b, off, rfl, _, hc⟩
  · obtain rfl : zs = [] := List.length_eq_zero_iff.1 hz
    cases a with
    | none => exact run_convert_bytes_nil w _ _ Tryz.underlying25 Tryz.underlying5 _ _ _ Tryz.underlying9
    | some x =>
      rw [run_convert_bytes_string w _ _ _ _ _ _ Tryz.underlying25 Tryz.underlying5 Tryz.underlying9]
      have := run_loadCells_list (P := Tryz.prog) w x [] (fun j v hj => by simp at hj)
      exact run_bytesToString w x 0 cap [] (by simpa using this)
  · exact run_convert_bytes_arg w _ _ Tryz.underlying25 Tryz.underlying5 b off _ cap zs rfl (fun i hi => by simpa [List.getD] using hc i hi) _ Tryz.underlying9

/-- What an argument's reading says of a slice of bytes. -/
def IsRowB (w : World) (a : Option Addr) (len cap : Nat) (zs : List Int) : Prop :=
  (a = none ∧ len = 0 ∧ cap = 0 ∧ zs = []) ∨
  ∃ x, a = some x ∧ len ≤ cap ∧ cap ≤ maxLen ∧ zs.length = cap ∧ (∀ i, i < zs.length → w.cell? (x.add i) = some (.int .u8 (zs.getD i 0))) ∧ ∀ n ∈ zs, (Lit.int .u8 n).wf = true

theorem IsRowB.bounds {w : World} {a : Option Addr} {len cap : Nat} {zs : List Int} (h : IsRowB w a len cap zs) : (a = none → len = 0) ∧ len ≤ cap ∧ cap ≤ maxLen := by
  rcases h with ⟨rfl, rfl, rfl, _⟩ | ⟨x, rfl, h1, h2, _⟩
  · exact ⟨fun _ => rfl, Nat.le_refl _, Nat.zero_le _⟩
  · exact ⟨fun h => (by cases h), h1, h2⟩

/-- Its first n bytes. -/
theorem IsRowB.bytes {w : World} {a : Option Addr} {len cap : Nat} {zs : List Int} (h : IsRowB w a len cap zs) (n : Nat) (hn : n ≤ len) (hs : n ≤ 140737488351232) : BytesAt w.heap.size w (.slice a n cap) (zs.take n) := by
  rcases h with ⟨rfl, rfl, rfl, rfl⟩ | ⟨x, rfl, h1, h2, h3, hc, hwf⟩
  · obtain rfl : n = 0 := by omega
    exact ⟨fun z hz => (by simp at hz), by simp, none, 0, rfl, .inl rfl⟩
  · have hl : (zs.take n).length = n := by simp; omega
    refine ⟨fun z hz => ?_, by omega, some x, cap, by rw [hl], ?_⟩
    · have := bounds_u8 (hwf z (List.mem_of_mem_take hz))
      omega
    · by_cases h0 : n = 0
      · exact .inl (by omega)
      · obtain ⟨b, off, rfl, hc'⟩ := ints_at hc (by omega)
        refine .inr ⟨b, off, rfl, ?_, fun j hj => ?_⟩
        · have hc0 := hc' 0 (by omega)
          simp only [World.cell?] at hc0
          cases hb : w.heap[b]? with
          | none => rw [hb] at hc0; simp at hc0
          | some o => exact (Array.getElem?_eq_some_iff.1 hb).1
        · rw [hc' j (by omega), List.getElem?_take_of_lt (by omega)]
          simp [List.getD]

/-- A built-in append whose run is known. -/
theorem wpList_append_run {P : Program} {w w2 : World} {ops : Array Oper} {rest : List Oper} {o : Oper} {a : Act} {Q : Exit → Act → World → Prop} (hg : o.guard = none) (s x : Operand) (t u : TypeId)
    (hop : o.op = Op.call { callee := Callee.builtin Builtin.append, args := #[s, x], argTypes := #[t, u] }) {vs vx v : Value} (hs : a.eval s = vs) (hx : a.eval x = vx)
    (hrun : (Builtin.append_ #[t, u] o.type #[vs, vx]).run P w = .ok v w2) (hK : wpList P ops Q rest (a.put o.dst v) w2) : wpList P ops Q (o :: rest) a w := by
  refine wpList_plain hg fun K hK' => ?_
  unfold Oper.wp
  simp [execOp, hop, resolve, invoke, builtin, hs, hx, hrun, Result.andThen]
  exact hK' _ _ hK

theorem info_u8 : (Tryz.prog.info? 5).map (fun i => (i.zero, i.size, i.bytes)) = some (some (.int .u8 0), 1, 1) := by kernel_rfl

/-- 'append([]byte{}, v...)': a copy of its own. -/
theorem BytesAt.copied {w : World} {v : Value} {zs : List Int} (h : BytesAt w.heap.size w v zs) (B : Nat) (ty : TypeId) :
    ∃ a cap w2, (Builtin.append_ #[25, 25] ty #[.slice (some ⟨B, 0, none⟩) 0 0, v]).run Tryz.prog w = .ok (.slice a zs.length cap) w2 ∧ BytesAt w2.heap.size w2 (.slice a zs.length cap) zs ∧ Below w.heap.size w w2 := by
  obtain ⟨i, hi, hz, hs, hb⟩ := info_parts info_u8
  obtain ⟨hf, hl, a, cap, rfl, hv⟩ := h
  have src : ∃ news : List Value, news = zs.map (fun z => Value.int .u8 z) ∧ Src Tryz.prog i.size 25 (.slice a zs.length cap) zs.length news w := by
    refine ⟨_, rfl, ?_⟩
    rw [hs]
    rcases hv with hv | ⟨b, off, rfl, hlt, hc⟩
    · obtain rfl : zs = [] := List.length_eq_zero_iff.1 hv
      cases a with
      | none => exact Src.ofNil w Tryz.underlying25 cap
      | some x => exact Src.ofSlice w Tryz.underlying25 x 0 cap [] rfl (fun j u hj => by simp at hj) (fun u hu => by cases hu)
    · refine Src.ofSlice w Tryz.underlying25 _ _ cap _ (by simp) (fun j u hj => ?_) (fun u hu => ?_)
      · rw [List.getElem?_map] at hj
        obtain ⟨z, hz, rfl⟩ := Option.map_eq_some_iff.1 hj
        have hjl := (List.getElem?_eq_some_iff.1 hz).1
        have := hc j hjl
        rw [hz] at this
        rw [Go.WideShapes.add_plain]
        exact this
      · obtain ⟨z, _, rfl⟩ := List.mem_map.1 hu
        rfl
  obtain ⟨news, hnews, hsrc⟩ := src
  by_cases h0 : zs.length = 0
  · obtain rfl : zs = [] := List.length_eq_zero_iff.1 h0
    have hr := run_append_room_src w 25 25 ty 5 i Tryz.underlying25 hi B 0 0 0 _ 0 news hsrc (Nat.le_refl _) (fun j hj => by rw [hnews] at hj; simp at hj) (fun j hj => by rw [hnews] at hj; simp at hj)
    subst hnews
    refine ⟨_, _, _, hr, ⟨hf, by simp, _, _, rfl, .inl rfl⟩, Below.refl _ _⟩
  · have hold : (Builtin.firstCells i.size 0 (.slice (some ⟨B, 0, none⟩) 0 0)).run Tryz.prog w.drew = .ok ([] : List Value).toArray w.drew := by
      exact run_firstCells_some w.drew i.size 0 ⟨B, 0, none⟩ 0 0 [] (by simp) (fun j u hj => by simp at hj)
    have hr := run_append_grow_src w 25 25 ty 5 i (.int .u8 0) Tryz.underlying25 hi hz (some ⟨B, 0, none⟩) 0 0 [] hold _ zs.length news hsrc (by omega) (by omega) (by
      rw [hb]
      have : Builtin.nextslicecap (0 + zs.length) 0 = zs.length := by
        unfold Builtin.nextslicecap
        simp
        intro e
        rw [e]; rfl
      omega)
    simp only [Nat.zero_add, List.nil_append] at hr
    refine ⟨_, _, _, hr, ?_, ((Below.refl _ w).drew).alloc (Nat.le_refl _) _⟩
    refine bytes_new w.drew 5 zs _ zs.length _ (fun j hj => ?_) rfl hl hf
    rw [hnews]
    simp [Array.getElem?_append, hj]

end Go.Proofs.YtnjkagopmfenkaaGreat

namespace Go.Proofs.YtnjkagopmfenkaaGreat
open Go Go.RowKit Go.Shelf

/-- t is the type of slices of e, whose elements take one cell and by' bytes. -/
structure Elem (t e : TypeId) (z : Value) (by' : Nat) : Prop where
  und : Tryz.prog.underlying t = some (.slice e)
  inf : (Tryz.prog.info? e).map (fun i => (i.zero, i.size, i.bytes)) = some (some z, 1, by')
  one : z.cells.size = 1

theorem elem_int : Elem 163 3 (.int .i64 0) 8 := ⟨Tryz.underlying163, by kernel_rfl, rfl⟩
theorem elem_u8 : Elem 25 5 (.int .u8 0) 1 := ⟨Tryz.underlying25, by kernel_rfl, rfl⟩

/-- An append to a slice of the call's own: a longer row of its own, in the same block or in a new one. -/
theorem own_append {t e : TypeId} {z : Value} {by' : Nat} (E : Elem t e z by') {w : World} {base n m c : Nat} {v : Value} {xs : List Value} (hown : w.ownsRow base e 1 v n xs) (a : Option Addr) (news : List Value) (hl : news.length = m)
    (ha : a = none → m = 0) (hnews : ∀ x, a = some x → ∀ (j : Nat) u, news[j]? = some u → w.cell? (x.add j) = some u) (h1 : ∀ u ∈ news, u.oneCell' = true) (h63 : n + m ≤ maxLen) (hby : (n + m) * by' ≤ 140737488355328) (hbase : base ≤ w.heap.size) (ty : TypeId) :
    ∃ v' w', (Builtin.append_ #[t, t] ty #[v, .slice a m c]).run Tryz.prog w = .ok v' w' ∧ w'.ownsRow base e 1 v' (n + m) (xs ++ news) ∧ w.grownBy w' v.ownBlock ∧ (v'.ownBlock = v.ownBlock ∨ ∀ k, v'.ownBlock = some k → w.heap.size ≤ k) := by
  obtain ⟨i, hi, hz, hs, hb⟩ := info_parts E.inf
  cases a with
  | none =>
    obtain rfl : m = 0 := ha rfl
    obtain rfl : news = [] := List.length_eq_zero_iff.1 hl
    refine ⟨v, w, ?_, by simpa using hown, ⟨rfl, rfl, rfl, Nat.le_refl _, fun _ _ _ => rfl⟩, .inl rfl⟩
    rcases hown.2 with ⟨rfl, rfl⟩ | ⟨g, cap, cur, rfl, _, hg, hnc, _, _, _⟩
    · simp [Builtin.append_, run_underlying E.und, sizeOf, typeInfo, hi, Builtin.lenOf, Builtin.firstCells]
    · simp [Builtin.append_, run_underlying E.und, sizeOf, typeInfo, hi, Builtin.lenOf, Builtin.firstCells, hnc, storeCells]
  | some x =>
    obtain ⟨v', w', hrun, r1, r2, r3⟩ := run_append_own (P := Tryz.prog) w base t ty e i z 1 by' E.und hi hz hs hb E.one (by decide) v n xs hown x m c news (by omega) (hnews x rfl) h1 h63 hby hbase
    refine ⟨v', w', hrun, r1, r2, ?_⟩
    rcases hown.2 with ⟨rfl, rfl⟩ | ⟨g, cap, cur, rfl, hbg, hg, hnc, hcm, hcs, htake⟩
    · obtain rfl : xs = [] := List.length_eq_zero_iff.1 (by simpa using hown.1)
      obtain ⟨v2, w2, hrun2, q1, _, _⟩ := run_append_own (P := Tryz.prog) w w.heap.size t ty e i z 1 by' E.und hi hz hs hb E.one (by decide) _ 0 [] (World.ownsRow_nil w _ e 1) x m c news (by omega) (hnews x rfl) h1 h63 hby (Nat.le_refl _)
      rw [hrun] at hrun2
      cases hrun2
      exact .inr (fun k hk => (q1.lt k hk).1)
    · by_cases hroom : n + m ≤ cap
      · have hr := run_append_room (P := Tryz.prog) w t ty e i E.und hi g n cap cur hg x m c news (by rw [hs]; omega) (hnews x rfl) h1 hroom (by rw [hs]; omega)
        rw [hrun] at hr
        cases hr
        exact .inl rfl
      · have holds : ∀ (j : Nat) u, xs[j]? = some u → w.cell? ((⟨g, 0, none⟩ : Addr).add j) = some u := hown.cells (g := g) rfl
        have hr := run_append_grow (P := Tryz.prog) w t ty e i z E.und hi hz ⟨g, 0, none⟩ n cap xs (by rw [hs]; exact hown.1) holds x m c news (by rw [hs]; omega) (hnews x rfl) (by omega) (by unfold maxLen at h63; omega) (growslice_fits (by omega) (by rw [hb]; exact hby))
        rw [hrun] at hr
        cases hr
        exact .inr (fun k hk => by simp [Value.ownBlock] at hk; omega)

/-- A row of the call's own, cell by cell. -/
theorem own_form {w : World} {base n : Nat} {e : TypeId} {v : Value} {xs : List Value} (h : w.ownsRow base e 1 v n xs) : ∃ a cap, v = .slice a n cap ∧ xs.length = n ∧
    (n = 0 ∨ ∃ g, a = some ⟨g, 0, none⟩ ∧ base ≤ g ∧ g < w.heap.size ∧ ∀ (j : Nat) u, xs[j]? = some u → w.cell? ⟨g, j, none⟩ = some u) := by
  have hl : xs.length = n := by simpa using h.1
  rcases h.2 with ⟨rfl, rfl⟩ | ⟨g, cap, cur, rfl, hb, hg, _⟩
  · exact ⟨none, 0, rfl, hl, .inl rfl⟩
  · refine ⟨_, cap, rfl, hl, .inr ⟨g, rfl, hb, (Array.getElem?_eq_some_iff.1 hg).1, fun j u hj => ?_⟩⟩
    have := h.cells (g := g) rfl j u hj
    rw [Go.WideShapes.add_plain] at this
    simpa using this

/-- An own row of bytes is a slice of bytes. -/
theorem own_bytes {w : World} {base n : Nat} {v : Value} {zs : List Int} (h : w.ownsRow base 5 1 v n (zs.map (fun z => Value.int .u8 z))) (hf : Fit zs) (hl : zs.length ≤ 140737488351232) : BytesAt w.heap.size w v zs := by
  obtain ⟨a, cap, rfl, hn, hz⟩ := own_form h
  simp only [List.length_map] at hn
  subst hn
  refine ⟨hf, hl, a, cap, rfl, hz.imp id ?_⟩
  rintro ⟨g, rfl, _, hg, hc⟩
  refine ⟨g, 0, rfl, hg, fun j hj => ?_⟩
  rw [Nat.zero_add]
  exact hc j _ (by rw [List.getElem?_map]; simp [hj])

end Go.Proofs.YtnjkagopmfenkaaGreat

namespace Go.Proofs.YtnjkagopmfenkaaGreat
open Go Go.RowKit Go.Shelf

def intsV (xs : List Int) : List Value := xs.map (fun z => .int .i64 z)
theorem intsV_one (xs : List Int) : ∀ u ∈ intsV xs, u.oneCell' = true := by
  intro u hu
  obtain ⟨z, _, rfl⟩ := List.mem_map.1 hu
  rfl

set_option maxHeartbeats 1000000 in
theorem added_calls (base : Nat) (v : Value) (xs : List Int) (hxs : Words xs) (w : World) (hl : xs.length ≤ 1000000) (h : w.ownsRow base 3 1 v xs.length (intsV xs)) :
    Calls Tryz.prog 109 #[v] w fun e w' => e = .returned (.int .i64 (sumW 0 xs)) ∧ w' = w := by
  obtain ⟨a, cap, rfl, _, hz⟩ := own_form h
  clear h
  go_enter Tryz.func109, Tryz.ntmps109
  go_wp2
  go_loop [3, 4] (fun s i => ∃ k : Nat, k ≤ xs.length ∧ i = .int .i64 k ∧ s = .int .i64 (sumW 0 (xs.take k))) (fun _ i => xs.length - (intOf i).toNat)
  case atStart => exact ⟨0, Nat.zero_le _, rfl, rfl⟩
  case round =>
    obtain ⟨k, hk, rfl, rfl⟩ := hrel
    by_cases hlt : k < xs.length
    · rcases hz with hz | ⟨g, rfl, _, _, hc⟩
      · omega
      have hx : xs[k]? = some xs[k] := by simp [hlt]
      have hck := hc k (.int .i64 xs[k]) (by rw [intsV, List.getElem?_map, hx]; rfl)
      have hr := hxs _ (List.mem_of_getElem? hx)
      have hs := sumW_range (xs.take k) 0 (by decide) (fun z hz => hxs z (List.mem_of_mem_take hz))
      have hsn := sumW_snoc 0 xs k _ hx
      clear hc hx
      generalize xs[k] = x at *
      generalize sumW 0 (xs.take k) = t at *
      have HS : Hid (sumW 0 (xs.take (k + 1)) = addW t x) := hsn
      clear hsn
      go_wp2
      all_goals
        refine ⟨⟨k + 1, by omega, by simp, ?_⟩, by simp [intOf]; omega⟩
        rw [HS.out, addW]
        first
          | rw [if_pos (by omega)]
          | rw [if_neg (by omega)]
    · obtain rfl : k = xs.length := by omega
      go_wp2
      go_ret
      exact ⟨by simp, rfl⟩

/-- One more number on a row of the call's own: behind the block that the walk lays for it. -/
theorem own_int {w : World} {base n : Nat} {v : Value} {xs : List Value} (hown : w.ownsRow base 3 1 v n xs) (hbase : base ≤ w.heap.size) (hn : n ≤ 1000000) (x : Int) (ty : TypeId) :
    ∃ v' w', (Builtin.append_ #[163, 163] ty #[v, .slice (some ⟨w.heap.size, 0, none⟩) 1 1]).run Tryz.prog (w.alloc (.cells #[.int .i64 x] 3)) = .ok v' w' ∧ w'.ownsRow base 3 1 v' (n + 1) (xs ++ [.int .i64 x]) ∧ w.grownBy w' v.ownBlock ∧ (v'.ownBlock = v.ownBlock ∨ ∀ k, v'.ownBlock = some k → w.heap.size ≤ k) := by
  obtain ⟨v', w', h1, h2, h3, h4⟩ := own_append elem_int (c := 1) (m := 1) (hown.alloc (.cells #[.int .i64 x] 3)) (some ⟨w.heap.size, 0, none⟩) [.int .i64 x] rfl (fun h => by cases h) (fun y hy j u hj => by
      cases hy
      match j, hj with
      | 0, hj => simp at hj; subst hj; exact (Boxed.new w _ _).cell) (fun u hu => by simp at hu; subst hu; rfl) (by unfold maxLen; omega) (by omega) (by simp; omega) ty
  refine ⟨v', w', h1, h2, ?_, h4.imp id (fun h k hk => by have := h k hk; simp at this; omega)⟩
  have h5 := World.grownBy_alloc w (.cells #[.int .i64 x] 3) v.ownBlock
  exact ⟨h3.os.trans h5.os, h3.tape.trans h5.tape, h3.output.trans h5.output, Nat.le_trans h5.size h3.size, fun k hk hne => (h3.block k (Nat.lt_of_lt_of_le hk h5.size) hne).trans (h5.block k hk hne)⟩

theorem wordsL_snoc (zs : List Int) (k : Nat) (h : 2 * k < zs.length) : intsV ((wordsL zs).take (k + 1)) = intsV ((wordsL zs).take k) ++ [.int .i64 (wd zs k)] := by
  obtain ⟨hk, e⟩ := List.getElem?_eq_some_iff.1 (wordsL_at zs k h)
  rw [List.take_succ_eq_append_getElem hk, e, intsV, List.map_append]; rfl

set_option maxHeartbeats 1000000 in
set_option maxRecDepth 100000 in
theorem words_ref (a : Option Addr) (n cap : Nat) (zs : List Int) (w : World) (hb : BytesAt w.heap.size w (.slice a n cap) zs) (hl : zs.length ≤ 1000000) :
    Calls Tryz.prog 110 #[.slice a n cap] w fun e w' => ∃ v, e = .returned v ∧ w'.ownsRow w.heap.size 3 1 v (wordsL zs).length (intsV (wordsL zs)) ∧ Below w.heap.size w w' := by
  obtain ⟨hfit, _, a, cap, e, hz⟩ := hb
  cases e
  have hwl := wordsL_length zs
  go_enter Tryz.func110, Tryz.ntmps110
  go_wp2
  go_loopw [3, 4] (fun v i wr => ∃ k : Nat, k ≤ (zs.length + 1) / 2 ∧ i = .int .i64 (2 * k : Nat) ∧ wr.ownsRow w.heap.size 3 1 v k (intsV ((wordsL zs).take k)) ∧ Below w.heap.size w wr) (fun _ i _ => zs.length + 2 - (intOf i).toNat)
  case atStart => exact ⟨0, Nat.zero_le _, rfl, World.ownsRow_nil _ _ _ _, Below.refl _ _⟩
  case round =>
    obtain ⟨k, hk, rfl, hown, hB⟩ := hrel
    by_cases hlt : 2 * k < zs.length
    · rcases hz with hz | ⟨b, off, rfl, hbn, hc⟩
      · omega
      have hsz := hB.size
      have hc0 := (hB.cell (p := ⟨b, off + 2 * k, none⟩) hbn).trans (hc (2 * k) hlt)
      have hf0 := hfit.at (2 * k)
      have hsn := wordsL_snoc zs k hlt
      by_cases hl2 : 2 * k + 1 < zs.length
      · have hc1 := (hB.cell (p := ⟨b, off + (2 * k + 1), none⟩) hbn).trans (hc (2 * k + 1) hl2)
        have hf1 := hfit.at (2 * k + 1)
        have hwd : wd zs k = zs[2 * k]?.getD 0 * 256 + zs[2 * k + 1]?.getD 0 := rfl
        rw [hwd] at hsn
        clear hwd hc
        generalize zs[2 * k]?.getD 0 = c0 at *
        generalize zs[2 * k + 1]?.getD 0 = c1 at *
        obtain ⟨v', w1, hrun, hown', hgrow, _⟩ := own_int hown hsz (by omega) (c0 * 256 + c1) 163
        have H0 : Hid _ := hrun
        have HS : Hid _ := hsn
        clear hrun hsn
        go_wp2_with (at_builtin; refine wpList_append_run rfl _ _ _ _ rfl rfl rfl H0.out ?_; clear H0)
        refine ⟨⟨k + 1, by omega, by simp; omega, ?_, hB.grown hgrow hsz (fun j hj => (hown.lt j hj).1)⟩, by simp [intOf]; omega⟩
        rw [HS.out]; exact hown'
      · have hwd : wd zs k = zs[2 * k]?.getD 0 * 256 := by
          unfold wd
          rw [List.getElem?_eq_none (show zs.length ≤ 2 * k + 1 by omega)]
          simp
        rw [hwd] at hsn
        clear hwd hc
        generalize zs[2 * k]?.getD 0 = c0 at *
        obtain ⟨v', w1, hrun, hown', hgrow, _⟩ := own_int hown hsz (by omega) (c0 * 256) 163
        have H0 : Hid _ := hrun
        have HS : Hid _ := hsn
        clear hrun hsn
        go_wp2_with (at_builtin; refine wpList_append_run rfl _ _ _ _ rfl rfl rfl H0.out ?_; clear H0)
        refine ⟨⟨k + 1, by omega, by simp; omega, ?_, hB.grown hgrow hsz (fun j hj => (hown.lt j hj).1)⟩, by simp [intOf]; omega⟩
        rw [HS.out]; exact hown'
    · have hkk : k = (zs.length + 1) / 2 := by omega
      go_wp2
      go_ret
      refine ⟨_, rfl, ?_, hB⟩
      rw [hwl, ← hkk]
      have e : (wordsL zs).take k = wordsL zs := List.take_of_length_le (by omega)
      rw [e] at hown
      exact hown

set_option maxHeartbeats 400000 in
theorem even_yes (a a' : Option Addr) (n cap cap' : Nat) (w : World) (hn : n ≤ 140737488351232) (h : n % 2 = 0) :
    Calls Tryz.prog 135 #[.slice a n cap, .slice a' n cap'] w fun e w' => e = .returned (.bool true) ∧ w' = w := by
  have hm : ((n : Int) % 2 == 0) = true := beq_iff_eq.2 (by omega)
  go_enter Tryz.func135, Tryz.ntmps135
  go_wp2
  go_ret
  exact ⟨rfl, rfl⟩

set_option maxHeartbeats 400000 in
theorem even_no (a a' : Option Addr) (n n' cap cap' : Nat) (w : World) (hn : n ≤ 140737488351232) (hn' : n' ≤ 140737488351232) (h : ¬ (n = n' ∧ n % 2 = 0)) :
    Calls Tryz.prog 135 #[.slice a n cap, .slice a' n' cap'] w fun e w' => e = .returned (.bool false) ∧ w' = w := by
  by_cases h1 : n = n'
  · subst h1
    have hm : ((n : Int) % 2 == 0) = false := beq_eq_false_iff_ne.2 (by omega)
    clear h
    go_enter Tryz.func135, Tryz.ntmps135
    go_wp2
    go_ret
    exact ⟨rfl, rfl⟩
  · have hm : ((n : Int) == (n' : Int)) = false := beq_eq_false_iff_ne.2 (by omega)
    clear h h1
    go_enter Tryz.func135, Tryz.ntmps135
    go_wp2
    go_ret
    exact ⟨rfl, rfl⟩

end Go.Proofs.YtnjkagopmfenkaaGreat

namespace Go.Proofs.YtnjkagopmfenkaaGreat
open Go Go.RowKit Go.Shelf

/-- A contract, kept out of the walk's sight. -/
def HidCalls (f : FuncId) (args : Array Value) (w : World) (R : Ending → World → Prop) : Prop := Calls Tryz.prog f args w R
theorem calls_hide {f : FuncId} {args : Array Value} {w : World} {R : Ending → World → Prop} (h : Calls Tryz.prog f args w R) : HidCalls f args w R := h
theorem calls_show {f : FuncId} {args : Array Value} {w : World} {R : Ending → World → Prop} (h : HidCalls f args w R) : Calls Tryz.prog f args w R := h

/-- A row of one's own lies on while nothing that lay has turned. -/
theorem own_below {w w' : World} {base n : Nat} {e : TypeId} {v : Value} {xs : List Value} (h : w.ownsRow base e 1 v n xs) (hb : Below w.heap.size w w') : w'.ownsRow base e 1 v n xs :=
  h.kept (row := none) ⟨hb.os, hb.tape, hb.output, hb.size, fun k hk _ => hb.block k hk⟩ (by cases hv : v.ownBlock <;> simp)

theorem own_lit (w : World) (x : Int) : (w.alloc (.cells #[.int .i64 x] 3)).ownsRow w.heap.size 3 1 (.slice (some ⟨w.heap.size, 0, none⟩) 1 1) 1 (intsV [x]) :=
  ⟨rfl, .inr ⟨w.heap.size, 1, _, rfl, Nat.le_refl _, World.alloc_heap_new w _, Nat.le_refl _, by decide, rfl, rfl⟩⟩

/-- The words of a row, turned, behind the words ys, when k of them have come. -/
def turnedTo (ys xs : List Int) (k : Nat) : List Int := ys ++ (xs.take k).map (fun z => 65535 - z)
theorem turnedTo_succ (ys xs : List Int) (k : Nat) (x : Int) (h : xs[k]? = some x) : intsV (turnedTo ys xs (k + 1)) = intsV (turnedTo ys xs k) ++ [.int .i64 (65535 - x)] := by
  obtain ⟨hk, rfl⟩ := List.getElem?_eq_some_iff.1 h
  rw [turnedTo, turnedTo, List.take_succ_eq_append_getElem hk, List.map_append, ← List.append_assoc, intsV, List.map_append]
  rfl
theorem turnedTo_length (ys xs : List Int) (k : Nat) (h : k ≤ xs.length) : (turnedTo ys xs k).length = ys.length + k := by
  simp [turnedTo]; omega

/-- One row of the call's own behind another. -/
theorem own_join {w : World} {base base' n m : Nat} {v u : Value} {xs ys : List Int} (hv : w.ownsRow base 3 1 v n (intsV xs)) (hu : w.ownsRow base' 3 1 u m (intsV ys)) (hbase : base ≤ w.heap.size) (hn : n + m ≤ 1000000) (ty : TypeId) :
    ∃ v' w', (Builtin.append_ #[163, 163] ty #[v, u]).run Tryz.prog w = .ok v' w' ∧ w'.ownsRow base 3 1 v' (n + m) (intsV (xs ++ ys)) ∧ w.grownBy w' v.ownBlock := by
  obtain ⟨a, cap, rfl, hl, hz⟩ := own_form hu
  obtain ⟨v', w', h1, h2, h3, _⟩ := own_append elem_int (c := cap) (m := m) hv a (intsV ys) hl (fun e => by
      rcases hz with hz | ⟨g, hg, _⟩
      · exact hz
      · rw [e] at hg; cases hg) (fun x hx j y hj => by
      rcases hz with hz | ⟨g, hg, _, _, hc⟩
      · have := (List.getElem?_eq_some_iff.1 hj).1; omega
      · rw [hx] at hg
        cases hg
        rw [Go.WideShapes.add_plain, Nat.zero_add]
        exact hc j y hj) (intsV_one ys) (by unfold maxLen; omega) (by omega) hbase ty
  refine ⟨v', w', h1, ?_, h3⟩
  rw [intsV, List.map_append]
  exact h2

theorem turnedTo_all (x : Int) (hx : 0 ≤ x ∧ x ≤ 65535) (xs ys : List Int) : sumW 0 (turnedTo [x] xs xs.length ++ ys) = sumW (sumW x (xs.map (fun z => 65535 - z))) ys := by
  have e : addW 0 x = x := by unfold addW; rw [if_pos (by omega)]; omega
  rw [turnedTo, List.take_length, sumW_append, sumW_append]
  have e2 : sumW 0 [x] = x := e
  rw [e2]
theorem turnedTo_words (zs xs ys : List Int) (k : Nat) (hz : Words zs) (h : Words xs) (hy : Words ys) : Words (turnedTo zs xs k ++ ys) := by
  refine Words.append (Words.append hz (turn_words ?_)) hy
  exact fun z hz => h z (List.mem_of_mem_take hz)

set_option maxHeartbeats 2000000 in
theorem update_ref (was : Int) (hwas : 0 ≤ was ∧ was ≤ 65535) (a a' : Option Addr) (n cap cap' : Nat) (zs ys : List Int) (w : World) (hz : BytesAt w.heap.size w (.slice a n cap) zs) (hy : BytesAt w.heap.size w (.slice a' n cap') ys) (h2 : n % 2 = 0) (hs : n ≤ 3000) :
    Calls Tryz.prog 101 #[.int .u16 was, .slice a n cap, .slice a' n cap'] w fun e w' =>
      e = .returned (.tuple #[.int .u16 (65535 - sumW (sumW (65535 - was) ((wordsL zs).map (fun z => 65535 - z))) (wordsL ys)), .int .i64 0]) ∧ Below w.heap.size w w' := by
  have hn1 : zs.length = n := by obtain ⟨_, _, e, _⟩ := hz.val; cases e; rfl
  have hn2 : ys.length = n := by obtain ⟨_, _, e, _⟩ := hy.val; cases e; rfl
  have hw1 := wordsL_words hz.fit
  have hw2 := wordsL_words hy.fit
  have hl1 : (wordsL zs).length ≤ 3000 := by rw [wordsL_length]; omega
  have hl2 : (wordsL ys).length ≤ 3000 := by rw [wordsL_length]; omega
  have hq1 : zs.length ≤ 3000 := by omega
  have hq2 : ys.length ≤ 3000 := by omega
  clear hn1 hn2
  go_enter Tryz.func101, Tryz.ntmps101
  go_wp2_with fail
  refine (even_yes a a' n cap cap' _ (by omega) h2).mono ?_
  rintro e w' ⟨rfl, rfl⟩
  have hB0 : Below w'.heap.size w' (w'.alloc (.cells #[.int .i64 (65535 - was)] 3)) := (Below.refl _ _).alloc (Nat.le_refl _) _
  go_wp2_with fail
  refine (words_ref a n cap zs _ (hz.later hB0) (by omega)).mono ?_
  rintro e w2 ⟨va, rfl, hva, hB1⟩
  have hB2 := hB0.trans (hB1.mono hB0.size)
  have hvl := own_below (own_lit w' (65535 - was)) hB1
  obtain ⟨aa, capa, rfl, _, _⟩ := own_form hva
  have hsep : ∀ g, (Value.slice aa (wordsL zs).length capa).ownBlock = some g → (Value.slice (some ⟨w'.heap.size, 0, none⟩) 1 1).ownBlock ≠ some g := by
    intro g hg e
    have := (hva.lt g hg).1
    simp [Value.ownBlock] at e
    simp at this
    omega
  have hrow : w2.ownsRow w'.heap.size 3 1 (.slice (some ⟨w'.heap.size, 0, none⟩) 1 1) (1 + 0) (intsV (turnedTo [65535 - was] (wordsL zs) 0)) := hvl
  generalize hbse : (w'.alloc (.cells #[.int .i64 (65535 - was)] 3)).heap.size = B1 at *
  clear hbse hB0 hB1 hvl
  go_wp2_with fail
  go_loopw [8, 10] (fun v i wr => ∃ k : Nat, k ≤ (wordsL zs).length ∧ i = .int .i64 k ∧ wr.ownsRow w'.heap.size 3 1 v (1 + k) (intsV (turnedTo [65535 - was] (wordsL zs) k)) ∧ wr.ownsRow B1 3 1 (.slice aa (wordsL zs).length capa) (wordsL zs).length (intsV (wordsL zs)) ∧ (∀ g, (Value.slice aa (wordsL zs).length capa).ownBlock = some g → v.ownBlock ≠ some g) ∧ Below w'.heap.size w' wr) (fun _ i _ => (wordsL zs).length - (intOf i).toNat)
  case atStart => exact ⟨0, Nat.zero_le _, rfl, hrow, hva, hsep, hB2⟩
  case round =>
    clear hrow hva hsep hB2
    obtain ⟨k, hk, rfl, hrow, hva, hsep, hB⟩ := hrel
    have hsz := hB.size
    by_cases hlt : k < (wordsL zs).length
    · obtain ⟨aa', capa', e, _, hza⟩ := own_form hva
      cases e
      rcases hza with hza | ⟨g, rfl, _, hg, hc⟩
      · omega
      have hx : (wordsL zs)[k]? = some (wordsL zs)[k] := by simp [hlt]
      have hck := hc k (.int .i64 (wordsL zs)[k]) (by rw [intsV, List.getElem?_map, hx]; rfl)
      have hr := hw1 _ (List.mem_of_getElem? hx)
      have hsn := turnedTo_succ [65535 - was] (wordsL zs) k _ hx
      clear hc hx
      generalize (wordsL zs)[k] = x at *
      obtain ⟨v', w1, hrun, hown', hgrow, hbl⟩ := own_int hrow hsz (by omega) (65535 - x) 163
      have H0 : Hid _ := hrun
      have HS : Hid _ := hsn
      have HB : Hid _ := hbl
      clear hrun hsn hbl
      go_wp2_with (at_builtin; refine wpList_append_run rfl _ _ _ _ rfl rfl rfl H0.out ?_; clear H0)
      refine ⟨⟨k + 1, by omega, by simp, ?_, hva.kept hgrow (.inr (fun e => hsep g rfl e.symm)), ?_, hB.grown hgrow hsz (fun j hj => (hrow.lt j hj).1)⟩, by simp [intOf]; omega⟩
      · rw [HS.out]; exact hown'
      · intro g' hg'
        rcases HB.out with e | e
        · rw [e]; exact hsep g' hg'
        · intro e'
          have := e g' e'
          simp [Value.ownBlock] at hg'
          omega
    · obtain rfl : k = (wordsL zs).length := by omega
      go_wp2_with fail
      refine (words_ref a' n cap' ys _ (hy.later hB) (by omega)).mono ?_
      rintro e w3 ⟨vb, rfl, hvb, hB3⟩
      have hrow3 := own_below hrow hB3
      have hB4 := hB.trans (hB3.mono hB.size)
      have hB3s := hB3.size
      obtain ⟨v', w4, hrun, hown', hgrow⟩ := own_join hrow3 hvb (by omega) (by omega) 163
      have hB5 := hB4.grown hgrow (by omega) (fun j hj => (hrow3.lt j hj).1)
      have hww := turnedTo_words [65535 - was] (wordsL zs) (wordsL ys) (wordsL zs).length (fun z hz => by simp at hz; omega) hw1 hw2
      have hlen : (turnedTo [65535 - was] (wordsL zs) (wordsL zs).length ++ wordsL ys).length = 1 + (wordsL zs).length + (wordsL ys).length := by
        rw [List.length_append, turnedTo_length _ _ _ (Nat.le_refl _)]; rfl
      have hr1 := sumW_range _ (65535 - was) (by omega) (turn_words hw1)
      have hr2 := sumW_range _ _ hr1 hw2
      have hadd := added_calls w'.heap.size v' _ hww w4 (by omega) (by rw [hlen]; exact hown')
      rw [turnedTo_all _ (by omega)] at hadd
      clear hww hlen hr1 hown' hgrow hrow3 hvb hrow hva hsep
      generalize ht : sumW (sumW (65535 - was) ((wordsL zs).map (fun z => 65535 - z))) (wordsL ys) = t at *
      have HT : Hid _ := ht
      clear ht
      have HA := calls_hide hadd
      have H0 : Hid _ := hrun
      clear hadd hrun
      go_wp2_with (at_builtin; refine wpList_append_run rfl _ _ _ _ rfl rfl rfl H0.out ?_; clear H0)
      refine (calls_show HA).mono ?_
      rintro e w5 ⟨rfl, rfl⟩
      go_wp2
      go_ret2
      exact ⟨by rw [HT.out]; rfl, hB5⟩

set_option maxHeartbeats 400000 in
theorem update_ref_no (was : Int) (a a' : Option Addr) (n n' cap cap' : Nat) (w : World) (hn : n ≤ 140737488351232) (hn' : n' ≤ 140737488351232) (h : ¬ (n = n' ∧ n % 2 = 0)) :
    Calls Tryz.prog 101 #[.int .u16 was, .slice a n cap, .slice a' n' cap'] w fun e w' => e = .returned (.tuple #[.int .u16 0, .int .i64 10]) ∧ w' = w := by
  have H : Hid (¬ (n = n' ∧ n % 2 = 0)) := h
  clear h
  go_enter Tryz.func101, Tryz.ntmps101
  go_wp2_with fail
  refine (even_no a a' n n' cap cap' _ hn hn' H.out).mono ?_
  rintro e w' ⟨rfl, rfl⟩
  go_wp2
  go_ret2
  exact ⟨rfl, rfl⟩

theorem turnedTo_sum (zs xs : List Int) : sumW 0 (turnedTo zs xs xs.length) = sumW (sumW 0 zs) (xs.map (fun z => 65535 - z)) := by
  rw [turnedTo, List.take_length, sumW_append]

end Go.Proofs.YtnjkagopmfenkaaGreat
