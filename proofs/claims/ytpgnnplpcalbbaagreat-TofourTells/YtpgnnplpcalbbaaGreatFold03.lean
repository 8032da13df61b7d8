/-
  The contracts of the statements' own helpers: cut, alive; and of package sum's Alike.
  Slices of bytes in a walk: their text, a copy of them by append, and what an argument's reading gives.
  Slices that a call makes by itself and appends to: what an append leaves, and where its row lies.
-/
import Derived.Test.YtpgnnplpcalbbaaGreatFold02
import Derived.Deep.AppendSrc
import Derived.Laws.BytesArg
import Derived.OpenShut
import Derived.Laws.AppendOwn
set_option linter.unusedVariables false
set_option linter.unusedSimpArgs false
namespace Go.Proofs.YtpgnnplpcalbbaaGreat
open Go Go.RowKit Go.Shelf
/-- A new row of bytes. -/
theorem bytes_new (w : World) (t : TypeId) (zs : List Int) (us : Array Value) (len cap : Nat) (hu : ∀ j, j < zs.length → us[j]? = some (.int .u8 (zs[j]?.getD 0))) (hl : len = zs.length) (hs : zs.length ≤ 140737488351232) (hf : Fit zs) :
    BytesAt (w.alloc (.cells us t)).heap.size (w.alloc (.cells us t)) (.slice (some ⟨w.heap.size, 0, none⟩) len cap) zs := by
  refine ⟨hf, hs, _, _, by rw [hl], .inr ⟨_, _, rfl, by simp, fun j hj => ?_⟩⟩
  have hn := World.alloc_heap_new w (.cells us t)
  simp only [World.cell?]
  rw [hn]
  simpa using hu j hj
theorem bytes_lit (zs : List Int) (us : Array Value) (hu : us = (zs.map (fun z => Value.int .u8 z)).toArray) (j : Nat) (hj : j < zs.length) : us[j]? = some (.int .u8 (zs[j]?.getD 0)) := by
  rw [hu]; simp [hj]
theorem alive_one : 65535 - sumW (sumW (65535 - 56623) ((wordsL [85, 85]).map (fun z => 65535 - z))) (wordsL [50, 133]) = 0 := by decide
theorem alive_two : 65535 - sumW 0 (wordsL [[0, 1, 242, 3], [244, 245, 246, 247]].flatten) = 8717 := by decide
/-- Two new rows of bytes, one behind the other. -/
theorem bytes_two (w : World) (t t' : TypeId) (zs ys : List Int) (us vs : Array Value) (n n' : Nat) (hu : us = (zs.map (fun z => Value.int .u8 z)).toArray) (hv : vs = (ys.map (fun z => Value.int .u8 z)).toArray)
    (hl : n = zs.length) (hl' : n' = ys.length) (hs : n ≤ 100000) (hs' : n' ≤ 100000) (hf : Fit zs) (hf' : Fit ys) :
    BytesAt ((w.alloc (.cells us t)).alloc (.cells vs t')).heap.size ((w.alloc (.cells us t)).alloc (.cells vs t')) (.slice (some ⟨w.heap.size, 0, none⟩) n n) zs ∧
    BytesAt ((w.alloc (.cells us t)).alloc (.cells vs t')).heap.size ((w.alloc (.cells us t)).alloc (.cells vs t')) (.slice (some ⟨w.heap.size + 1, 0, none⟩) n' n') ys := by
  refine ⟨(bytes_new w t zs us n n (bytes_lit zs us hu) hl (by omega) hf).later ((Below.refl _ _).alloc (Nat.le_refl _) _), ?_⟩
  have := bytes_new (w.alloc (.cells us t)) t' ys vs n' n' (bytes_lit ys vs hv) hl' (by omega) hf'
  have e : (w.alloc (.cells us t)).heap.size = w.heap.size + 1 := World.size_alloc w _
  simpa only [e] using this
theorem fit_of (zs : List Int) (h : zs.all (fun z => decide (0 ≤ z) && decide (z < 256)) = true) : Fit zs := by
  intro z hz
  have := List.all_eq_true.1 h z hz
  simpa using this
theorem alive_up (w : World) : Calls Tryz.prog 222 #[.int .u16 56623, .slice (some ⟨w.heap.size, 0, none⟩) 2 2, .slice (some ⟨w.heap.size + 1, 0, none⟩) 2 2] ((w.alloc (.cells #[.int .u8 85, .int .u8 85] 5)).alloc (.cells #[.int .u8 50, .int .u8 133] 5))
    fun e w' => e = .returned (.tuple #[.int .u16 0, .int .i64 0]) ∧ Below w.heap.size w w' := by
  have h2 := bytes_two w 5 5 [85, 85] [50, 133] #[.int .u8 85, .int .u8 85] #[.int .u8 50, .int .u8 133] 2 2 rfl rfl rfl rfl (by decide) (by decide) (fit_of _ rfl) (fit_of _ rfl)
  have hb : Below w.heap.size w ((w.alloc (.cells #[.int .u8 85, .int .u8 85] 5)).alloc (.cells #[.int .u8 50, .int .u8 133] 5)) := ((Below.refl _ w).alloc (Nat.le_refl _) _).alloc (by simp) _
  refine (update_some 56623 (by decide) _ _ 2 2 2 [85, 85] [50, 133] _ h2.1 h2.2 rfl).mono ?_
  rintro e w1 ⟨rfl, hb1⟩
  rw [alive_one]
  exact ⟨rfl, hb.trans (hb1.mono hb.size)⟩
/-- Of, called at two parts of one new row. -/
theorem of_two (u1 u2 : Value) (z1 z2 : List Int) (w : World) (h1 : BytesAt w.heap.size w u1 z1) (h2 : BytesAt w.heap.size w u2 z2) :
    Calls Tryz.prog 228 #[.slice (some ⟨w.heap.size, 0, none⟩) 2 2] (w.alloc (.cells #[u1, u2] 25)) fun e w' => e = .returned (.int .u16 (65535 - sumW 0 (wordsL [z1, z2].flatten))) ∧ Below w.heap.size w w' := by
  refine (of_calls _ _ _ [z1, z2] _ (parts_two w u1 u2 _ z1 z2 h1 h2)).mono ?_
  rintro e w' ⟨rfl, hb⟩
  exact ⟨rfl, ((Below.refl _ w).alloc (Nat.le_refl _) _).trans (hb.mono (by simp))⟩
theorem of_three (u1 u2 u3 : Value) (z1 z2 z3 : List Int) (w : World) (h1 : BytesAt w.heap.size w u1 z1) (h2 : BytesAt w.heap.size w u2 z2) (h3 : BytesAt w.heap.size w u3 z3) :
    Calls Tryz.prog 228 #[.slice (some ⟨w.heap.size, 0, none⟩) 3 3] (w.alloc (.cells #[u1, u2, u3] 25)) fun e w' => e = .returned (.int .u16 (65535 - sumW 0 (wordsL [z1, z2, z3].flatten))) ∧ Below w.heap.size w w' := by
  refine (of_calls _ _ _ [z1, z2, z3] _ (parts_three w u1 u2 u3 _ z1 z2 z3 h1 h2 h3)).mono ?_
  rintro e w' ⟨rfl, hb⟩
  exact ⟨rfl, ((Below.refl _ w).alloc (Nat.le_refl _) _).trans (hb.mono (by simp))⟩
theorem of_four (u1 u2 u3 u4 : Value) (z1 z2 z3 z4 : List Int) (w : World) (h1 : BytesAt w.heap.size w u1 z1) (h2 : BytesAt w.heap.size w u2 z2) (h3 : BytesAt w.heap.size w u3 z3) (h4 : BytesAt w.heap.size w u4 z4) :
    Calls Tryz.prog 228 #[.slice (some ⟨w.heap.size, 0, none⟩) 4 4] (w.alloc (.cells #[u1, u2, u3, u4] 25)) fun e w' => e = .returned (.int .u16 (65535 - sumW 0 (wordsL [z1, z2, z3, z4].flatten))) ∧ Below w.heap.size w w' := by
  refine (of_calls _ _ _ [z1, z2, z3, z4] _ (parts_four w u1 u2 u3 u4 _ z1 z2 z3 z4 h1 h2 h3 h4)).mono ?_
  rintro e w' ⟨rfl, hb⟩
  exact ⟨rfl, ((Below.refl _ w).alloc (Nat.le_refl _) _).trans (hb.mono (by simp))⟩
theorem alive_of (w : World) : Calls Tryz.prog 228 #[.slice (some ⟨w.heap.size + 1 + 1, 0, none⟩) 2 2] (((w.alloc (.cells #[.int .u8 0, .int .u8 1, .int .u8 242, .int .u8 3] 5)).alloc (.cells #[.int .u8 244, .int .u8 245, .int .u8 246, .int .u8 247] 5)).alloc (.cells #[.slice (some ⟨w.heap.size, 0, none⟩) 4 4, .slice (some ⟨w.heap.size + 1, 0, none⟩) 4 4] 25))
    fun e w' => e = .returned (.int .u16 8717) ∧ Below w.heap.size w w' := by
  have h4 := bytes_two w 5 5 [0, 1, 242, 3] [244, 245, 246, 247] #[.int .u8 0, .int .u8 1, .int .u8 242, .int .u8 3] #[.int .u8 244, .int .u8 245, .int .u8 246, .int .u8 247] 4 4 rfl rfl rfl rfl (by decide) (by decide) (fit_of _ rfl) (fit_of _ rfl)
  have hb : Below w.heap.size w ((w.alloc (.cells #[.int .u8 0, .int .u8 1, .int .u8 242, .int .u8 3] 5)).alloc (.cells #[.int .u8 244, .int .u8 245, .int .u8 246, .int .u8 247] 5)) := ((Below.refl _ w).alloc (Nat.le_refl _) _).alloc (by simp) _
  have h := of_two _ _ _ _ _ h4.1 h4.2
  have e1 : ((w.alloc (.cells #[.int .u8 0, .int .u8 1, .int .u8 242, .int .u8 3] 5)).alloc (.cells #[.int .u8 244, .int .u8 245, .int .u8 246, .int .u8 247] 5)).heap.size = w.heap.size + 1 + 1 := by simp
  rw [alive_two] at h
  have h' := h.mono (R' := fun e w' => e = .returned (.int .u16 8717) ∧ Below w.heap.size w w') (fun e w' hr => ⟨hr.1, hb.trans (hr.2.mono hb.size)⟩)
  rw [e1] at h'
  exact h'
/-- Two checksums say the same. -/
def alikeB (a b : Int) : Bool := decide (a % 65535 = b % 65535)
end Go.Proofs.YtpgnnplpcalbbaaGreat
namespace Go.Proofs.YtpgnnplpcalbbaaGreat
open Go Go.RowKit Go.Shelf
/-- The text of a slice of bytes. -/
theorem BytesAt.text {n₀ : Nat} {w : World} {v : Value} {zs : List Int} (h : BytesAt n₀ w v zs) : (convert 25 9 v).run Tryz.prog w = .ok (.string (strOfNums zs)) w := by
  obtain ⟨_, _, a, cap, rfl, hz⟩ := h
  rcases hz with hz | ⟨b, off, rfl, _, hc⟩
  · obtain rfl : zs = [] := List.length_eq_zero_iff.1 hz
    cases a with
    | none => exact run_convert_bytes_nil w _ _ Tryz.underlying25 Tryz.underlying5 _ _ _ Tryz.underlying9
    | some x =>
      rw [run_convert_bytes_string w _ _ _ _ _ _ Tryz.underlying25 Tryz.underlying5 Tryz.underlying9]
      have := run_loadCells_list (P := Tryz.prog) w x [] (fun j v hj => by simp at hj)
      exact run_bytesToString w x 0 cap [] (by simpa using this)
  · exact run_convert_bytes_arg w _ _ Tryz.underlying25 Tryz.underlying5 b off _ cap zs rfl (fun i hi => by simpa [List.getD] using hc i hi) _ Tryz.underlying9
/-- What an argument's reading says of a slice of bytes. -/
def IsRowB (w : World) (a : Option Addr) (len cap : Nat) (zs : List Int) : Prop :=
  (a = none ∧ len = 0 ∧ cap = 0 ∧ zs = []) ∨
  ∃ x, a = some x ∧ len ≤ cap ∧ cap ≤ maxLen ∧ zs.length = cap ∧ (∀ i, i < zs.length → w.cell? (x.add i) = some (.int .u8 (zs.getD i 0))) ∧ ∀ n ∈ zs, (Lit.int .u8 n).wf = true
theorem IsRowB.bounds {w : World} {a : Option Addr} {len cap : Nat} {zs : List Int} (h : IsRowB w a len cap zs) : (a = none → len = 0) ∧ len ≤ cap ∧ cap ≤ maxLen := by
  rcases h with ⟨rfl, rfl, rfl, _⟩ | ⟨x, rfl, h1, h2, _⟩
  · exact ⟨fun _ => rfl, Nat.le_refl _, Nat.zero_le _⟩
  · exact ⟨fun h => (by cases h), h1, h2⟩
/-- Its first n bytes. -/
theorem IsRowB.bytes {w : World} {a : Option Addr} {len cap : Nat} {zs : List Int} (h : IsRowB w a len cap zs) (n : Nat) (hn : n ≤ len) (hs : n ≤ 140737488351232) : BytesAt w.heap.size w (.slice a n cap) (zs.take n) := by
  rcases h with ⟨rfl, rfl, rfl, rfl⟩ | ⟨x, rfl, h1, h2, h3, hc, hwf⟩
  · obtain rfl : n = 0 := by omega
    exact ⟨fun z hz => (by simp at hz), by simp, none, 0, rfl, .inl rfl⟩
  · have hl : (zs.take n).length = n := by simp; omega
    refine ⟨fun z hz => ?_, by omega, some x, cap, by rw [hl], ?_⟩
    · have := bounds_u8 (hwf z (List.mem_of_mem_take hz))
      omega
    · by_cases h0 : n = 0
      · exact .inl (by omega)
      · obtain ⟨b, off, rfl, hc'⟩ := ints_at hc (by omega)
        refine .inr ⟨b, off, rfl, ?_, fun j hj => ?_⟩
        · have hc0 := hc' 0 (by omega)
          simp only [World.cell?] at hc0
          cases hb : w.heap[b]? with
          | none => rw [hb] at hc0; simp at hc0
          | some o => exact (Array.getElem?_eq_some_iff.1 hb).1
        · rw [hc' j (by omega), List.getElem?_take_of_lt (by omega)]
          simp [List.getD]
/-- A built-in append whose run is known. -/
theorem wpList_append_run {P : Program} {w w2 : World} {ops : Array Oper} {rest : List Oper} {o : Oper} {a : Act} {Q : Exit → Act → World → Prop} (hg : o.guard = none) (s x : Operand) (t u : TypeId)
    (hop : o.op = Op.call { callee := Callee.builtin Builtin.append, args := #[s, x], argTypes := #[t, u] }) {vs vx v : Value} (hs : a.eval s = vs) (hx : a.eval x = vx)
    (hrun : (Builtin.append_ #[t, u] o.type #[vs, vx]).run P w = .ok v w2) (hK : wpList P ops Q rest (a.put o.dst v) w2) : wpList P ops Q (o :: rest) a w := by
  refine wpList_plain hg fun K hK' => ?_
  unfold Oper.wp
  simp [execOp, hop, resolve, invoke, builtin, hs, hx, hrun, Result.andThen]
  exact hK' _ _ hK
theorem info_u8 : (Tryz.prog.info? 5).map (fun i => (i.zero, i.size, i.bytes)) = some (some (.int .u8 0), 1, 1) := by kernel_rfl
/-- 'append([]byte{}, v...)': a copy of its own. -/
theorem BytesAt.copied {w : World} {v : Value} {zs : List Int} (h : BytesAt w.heap.size w v zs) (B : Nat) (ty : TypeId) :
    ∃ a cap w2, (Builtin.append_ #[25, 25] ty #[.slice (some ⟨B, 0, none⟩) 0 0, v]).run Tryz.prog w = .ok (.slice a zs.length cap) w2 ∧ BytesAt w2.heap.size w2 (.slice a zs.length cap) zs ∧ Below w.heap.size w w2 := by
  obtain ⟨i, hi, hz, hs, hb⟩ := info_parts info_u8
  obtain ⟨hf, hl, a, cap, rfl, hv⟩ := h
  have src : ∃ news : List Value, news = zs.map (fun z => Value.int .u8 z) ∧ Src Tryz.prog i.size 25 (.slice a zs.length cap) zs.length news w := by
    refine ⟨_, rfl, ?_⟩
    rw [hs]
    rcases hv with hv | ⟨b, off, rfl, hlt, hc⟩
    · obtain rfl : zs = [] := List.length_eq_zero_iff.1 hv
      cases a with
      | none => exact Src.ofNil w Tryz.underlying25 cap
      | some x => exact Src.ofSlice w Tryz.underlying25 x 0 cap [] rfl (fun j u hj => by simp at hj) (fun u hu => by cases hu)
    · refine Src.ofSlice w Tryz.underlying25 _ _ cap _ (by simp) (fun j u hj => ?_) (fun u hu => ?_)
      · rw [List.getElem?_map] at hj
        obtain ⟨z, hz, rfl⟩ := Option.map_eq_some_iff.1 hj
        have hjl := (List.getElem?_eq_some_iff.1 hz).1
        have := hc j hjl
        rw [hz] at this
        rw [Go.WideShapes.add_plain]
        exact this
      · obtain ⟨z, _, rfl⟩ := List.mem_map.1 hu
        rfl
  obtain ⟨news, hnews, hsrc⟩ := src
  by_cases h0 : zs.length = 0
  · obtain rfl : zs = [] := List.length_eq_zero_iff.1 h0
    have hr := run_append_room_src w 25 25 ty 5 i Tryz.underlying25 hi B 0 0 0 _ 0 news hsrc (Nat.le_refl _) (fun j hj => by rw [hnews] at hj; simp at hj) (fun j hj => by rw [hnews] at hj; simp at hj)
    subst hnews
    refine ⟨_, _, _, hr, ⟨hf, by simp, _, _, rfl, .inl rfl⟩, Below.refl _ _⟩
  · have hold : (Builtin.firstCells i.size 0 (.slice (some ⟨B, 0, none⟩) 0 0)).run Tryz.prog w.drew = .ok ([] : List Value).toArray w.drew := by
      exact run_firstCells_some w.drew i.size 0 ⟨B, 0, none⟩ 0 0 [] (by simp) (fun j u hj => by simp at hj)
    have hr := run_append_grow_src w 25 25 ty 5 i (.int .u8 0) Tryz.underlying25 hi hz (some ⟨B, 0, none⟩) 0 0 [] hold _ zs.length news hsrc (by omega) (by omega) (by
      rw [hb]
      have : Builtin.nextslicecap (0 + zs.length) 0 = zs.length := by
        unfold Builtin.nextslicecap
        simp
        intro e
        rw [e]; rfl
      omega)
    simp only [Nat.zero_add, List.nil_append] at hr
    refine ⟨_, _, _, hr, ?_, ((Below.refl _ w).drew).alloc (Nat.le_refl _) _⟩
    refine bytes_new w.drew 5 zs _ zs.length _ (fun j hj => ?_) rfl hl hf
    rw [hnews]
    simp [Array.getElem?_append, hj]
end Go.Proofs.YtpgnnplpcalbbaaGreat
namespace Go.Proofs.YtpgnnplpcalbbaaGreat
open Go Go.RowKit Go.Shelf
/-- t is the type of slices of e, whose elements take one cell and by' bytes. -/
structure Elem (t e : TypeId) (z : Value) (by' : Nat) : Prop where
  und : Tryz.prog.underlying t = some (.slice e)
  inf : (Tryz.prog.info? e).map (fun i => (i.zero, i.size, i.bytes)) = some (some z, 1, by')
  one : z.cells.size = 1
theorem elem_int : Elem 199 3 (.int .i64 0) 8 := ⟨Tryz.underlying199, by kernel_rfl, rfl⟩
theorem elem_u8 : Elem 25 5 (.int .u8 0) 1 := ⟨Tryz.underlying25, by kernel_rfl, rfl⟩
/-- An append to a slice of the call's own: a longer row of its own, in the same block or in a new one. -/
theorem own_append {t e : TypeId} {z : Value} {by' : Nat} (E : Elem t e z by') {w : World} {base n m c : Nat} {v : Value} {xs : List Value} (hown : w.ownsRow base e 1 v n xs) (a : Option Addr) (news : List Value) (hl : news.length = m)
    (ha : a = none → m = 0) (hnews : ∀ x, a = some x → ∀ (j : Nat) u, news[j]? = some u → w.cell? (x.add j) = some u) (h1 : ∀ u ∈ news, u.oneCell' = true) (h63 : n + m ≤ maxLen) (hby : (n + m) * by' ≤ 140737488355328) (hbase : base ≤ w.heap.size) (ty : TypeId) :
    ∃ v' w', (Builtin.append_ #[t, t] ty #[v, .slice a m c]).run Tryz.prog w = .ok v' w' ∧ w'.ownsRow base e 1 v' (n + m) (xs ++ news) ∧ w.grownBy w' v.ownBlock ∧ (v'.ownBlock = v.ownBlock ∨ ∀ k, v'.ownBlock = some k → w.heap.size ≤ k) := by
  obtain ⟨i, hi, hz, hs, hb⟩ := info_parts E.inf
  cases a with
  | none =>
    obtain rfl : m = 0 := ha rfl
    obtain rfl : news = [] := List.length_eq_zero_iff.1 hl
    refine ⟨v, w, ?_, by simpa using hown, ⟨rfl, rfl, rfl, Nat.le_refl _, fun _ _ _ => rfl⟩, .inl rfl⟩
    rcases hown.2 with ⟨rfl, rfl⟩ | ⟨g, cap, cur, rfl, _, hg, hnc, _, _, _⟩
    · simp [Builtin.append_, run_underlying E.und, sizeOf, typeInfo, hi, Builtin.lenOf, Builtin.firstCells]
    · simp [Builtin.append_, run_underlying E.und, sizeOf, typeInfo, hi, Builtin.lenOf, Builtin.firstCells, hnc, storeCells]
  | some x =>
    obtain ⟨v', w', hrun, r1, r2, r3⟩ := run_append_own (P := Tryz.prog) w base t ty e i z 1 by' E.und hi hz hs hb E.one (by decide) v n xs hown x m c news (by omega) (hnews x rfl) h1 h63 hby hbase
    refine ⟨v', w', hrun, r1, r2, ?_⟩
    rcases hown.2 with ⟨rfl, rfl⟩ | ⟨g, cap, cur, rfl, hbg, hg, hnc, hcm, hcs, htake⟩
    · obtain rfl : xs = [] := List.length_eq_zero_iff.1 (by simpa using hown.1)
      obtain ⟨v2, w2, hrun2, q1, _, _⟩ := run_append_own (P := Tryz.prog) w w.heap.size t ty e i z 1 by' E.und hi hz hs hb E.one (by decide) _ 0 [] (World.ownsRow_nil w _ e 1) x m c news (by omega) (hnews x rfl) h1 h63 hby (Nat.le_refl _)
      rw [hrun] at hrun2
      cases hrun2
      exact .inr (fun k hk => (q1.lt k hk).1)
    · by_cases hroom : n + m ≤ cap
      · have hr := run_append_room (P := Tryz.prog) w t ty e i E.und hi g n cap cur hg x m c news (by rw [hs]; omega) (hnews x rfl) h1 hroom (by rw [hs]; omega)
        rw [hrun] at hr
        cases hr
        exact .inl rfl
      · have holds : ∀ (j : Nat) u, xs[j]? = some u → w.cell? ((⟨g, 0, none⟩ : Addr).add j) = some u := hown.cells (g := g) rfl
        have hr := run_append_grow (P := Tryz.prog) w t ty e i z E.und hi hz ⟨g, 0, none⟩ n cap xs (by rw [hs]; exact hown.1) holds x m c news (by rw [hs]; omega) (hnews x rfl) (by omega) (by unfold maxLen at h63; omega) (growslice_fits (by omega) (by rw [hb]; exact hby))
        rw [hrun] at hr
        cases hr
        exact .inr (fun k hk => by simp [Value.ownBlock] at hk; omega)
/-- A row of the call's own, cell by cell. -/
theorem own_form {w : World} {base n : Nat} {e : TypeId} {v : Value} {xs : List Value} (h : w.ownsRow base e 1 v n xs) : ∃ a cap, v = .slice a n cap ∧ xs.length = n ∧
    (n = 0 ∨ ∃ g, a = some ⟨g, 0, none⟩ ∧ base ≤ g ∧ g < w.heap.size ∧ ∀ (j : Nat) u, xs[j]? = some u → w.cell? ⟨g, j, none⟩ = some u) := by
  have hl : xs.length = n := by simpa using h.1
  rcases h.2 with ⟨rfl, rfl⟩ | ⟨g, cap, cur, rfl, hb, hg, _⟩
  · exact ⟨none, 0, rfl, hl, .inl rfl⟩
  · refine ⟨_, cap, rfl, hl, .inr ⟨g, rfl, hb, (Array.getElem?_eq_some_iff.1 hg).1, fun j u hj => ?_⟩⟩
    have := h.cells (g := g) rfl j u hj
    rw [Go.WideShapes.add_plain] at this
    simpa using this
/-- An own row of bytes is a slice of bytes. -/
theorem own_bytes {w : World} {base n : Nat} {v : Value} {zs : List Int} (h : w.ownsRow base 5 1 v n (zs.map (fun z => Value.int .u8 z))) (hf : Fit zs) (hl : zs.length ≤ 140737488351232) : BytesAt w.heap.size w v zs := by
  obtain ⟨a, cap, rfl, hn, hz⟩ := own_form h
  simp only [List.length_map] at hn
  subst hn
  refine ⟨hf, hl, a, cap, rfl, hz.imp id ?_⟩
  rintro ⟨g, rfl, _, hg, hc⟩
  refine ⟨g, 0, rfl, hg, fun j hj => ?_⟩
  rw [Nat.zero_add]
  exact hc j _ (by rw [List.getElem?_map]; simp [hj])
end Go.Proofs.YtpgnnplpcalbbaaGreat
