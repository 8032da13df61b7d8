/-
  Slices that a call makes by itself and appends to: what an append leaves, and where its row lies.
-/
import Derived.Test.YtbaeogoojpngbaaBytes
import Derived.Laws.AppendOwn
namespace Go.Proofs.Ytbaeogoojpngbaa
open Go Go.RowKit Go.Shelf

/-- t is the type of slices of e, whose elements take one cell and by' bytes. -/
structure Elem (t e : TypeId) (z : Value) (by' : Nat) : Prop where
  und : Try.prog.underlying t = some (.slice e)
  inf : (Try.prog.info? e).map (fun i => (i.zero, i.size, i.bytes)) = some (some z, 1, by')
  one : z.cells.size = 1

theorem elem_u8 : Elem 26 5 (.int .u8 0) 1 := ⟨Try.underlying26, by kernel_rfl, rfl⟩

/-- An append to a slice of the call's own: a longer row of its own, in the same block or in a new one. -/
theorem own_append {t e : TypeId} {z : Value} {by' : Nat} (E : Elem t e z by') {w : World} {base n m c : Nat} {v : Value} {xs : List Value} (hown : w.ownsRow base e 1 v n xs) (a : Option Addr) (news : List Value) (hl : news.length = m)
    (ha : a = none → m = 0) (hnews : ∀ x, a = some x → ∀ (j : Nat) u, news[j]? = some u → w.cell? (x.add j) = some u) (h1 : ∀ u ∈ news, u.oneCell' = true) (h63 : n + m ≤ maxLen) (hby : (n + m) * by' ≤ 140737488355328) (hbase : base ≤ w.heap.size) (ty : TypeId) :
    ∃ v' w', (Builtin.append_ #[t, t] ty #[v, .slice a m c]).run Try.prog w = .ok v' w' ∧ w'.ownsRow base e 1 v' (n + m) (xs ++ news) ∧ w.grownBy w' v.ownBlock ∧ (v'.ownBlock = v.ownBlock ∨ ∀ k, v'.ownBlock = some k → w.heap.size ≤ k) := by
  obtain ⟨i, hi, hz, hs, hb⟩ := info_parts E.inf
  cases a with
  | none =>
    obtain rfl : m = 0 := ha rfl
    obtain rfl : news = [] := List.length_eq_zero_iff.1 hl
    refine ⟨v, w, ?_, by simpa using hown, ⟨rfl, rfl, rfl, Nat.le_refl _, fun _ _ _ => rfl⟩, .inl rfl⟩
    rcases hown.2 with ⟨rfl, rfl⟩ | ⟨g, cap, cur, rfl, _, hg, hnc, _, _, _⟩
    · simp [Builtin.append_, run_underlying E.und, sizeOf, typeInfo, hi, Builtin.lenOf, Builtin.firstCells]
    · simp [Builtin.append_, run_underlying E.und, sizeOf, typeInfo, hi, Builtin.lenOf, Builtin.firstCells, hnc, storeCells]
  | some x =>
    obtain ⟨v', w', hrun, r1, r2, r3⟩ := run_append_own (P := Try.prog) w base t ty e i z 1 by' E.und hi hz hs hb E.one (by decide) v n xs hown x m c news (by omega) (hnews x rfl) h1 h63 hby hbase
    refine ⟨v', w', hrun, r1, r2, ?_⟩
    rcases hown.2 with ⟨rfl, rfl⟩ | ⟨g, cap, cur, rfl, hbg, hg, hnc, hcm, hcs, htake⟩
    · obtain rfl : xs = [] := List.length_eq_zero_iff.1 (by simpa using hown.1)
      obtain ⟨v2, w2, hrun2, q1, _, _⟩ := run_append_own (P := Try.prog) w w.heap.size t ty e i z 1 by' E.und hi hz hs hb E.one (by decide) _ 0 [] (World.ownsRow_nil w _ e 1) x m c news (by omega) (hnews x rfl) h1 h63 hby (Nat.le_refl _)
      rw [hrun] at hrun2
      cases hrun2
      exact .inr (fun k hk => (q1.lt k hk).1)
    · by_cases hroom : n + m ≤ cap
      · have hr := run_append_room (P := Try.prog) w t ty e i E.und hi g n cap cur hg x m c news (by rw [hs]; omega) (hnews x rfl) h1 hroom (by rw [hs]; omega)
        rw [hrun] at hr
        cases hr
        exact .inl rfl
      · have holds : ∀ (j : Nat) u, xs[j]? = some u → w.cell? ((⟨g, 0, none⟩ : Addr).add j) = some u := hown.cells (g := g) rfl
        have hr := run_append_grow (P := Try.prog) w t ty e i z E.und hi hz ⟨g, 0, none⟩ n cap xs (by rw [hs]; exact hown.1) holds x m c news (by rw [hs]; omega) (hnews x rfl) (by omega) (by unfold maxLen at h63; omega) (growslice_fits (by omega) (by rw [hb]; exact hby))
        rw [hrun] at hr
        cases hr
        exact .inr (fun k hk => by simp [Value.ownBlock] at hk; omega)

/-- A row of the call's own, cell by cell. -/
theorem own_form {w : World} {base n : Nat} {e : TypeId} {v : Value} {xs : List Value} (h : w.ownsRow base e 1 v n xs) : ∃ a cap, v = .slice a n cap ∧ xs.length = n ∧
    (n = 0 ∨ ∃ g, a = some ⟨g, 0, none⟩ ∧ base ≤ g ∧ g < w.heap.size ∧ ∀ (j : Nat) u, xs[j]? = some u → w.cell? ⟨g, j, none⟩ = some u) := by
  have hl : xs.length = n := by simpa using h.1
  rcases h.2 with ⟨rfl, rfl⟩ | ⟨g, cap, cur, rfl, hb, hg, _⟩
  · exact ⟨none, 0, rfl, hl, .inl rfl⟩
  · refine ⟨_, cap, rfl, hl, .inr ⟨g, rfl, hb, (Array.getElem?_eq_some_iff.1 hg).1, fun j u hj => ?_⟩⟩
    have := h.cells (g := g) rfl j u hj
    rw [Go.WideShapes.add_plain] at this
    simpa using this

/-- An own row of bytes is a slice of bytes. -/
theorem own_bytes {w : World} {base n : Nat} {v : Value} {zs : List Int} (h : w.ownsRow base 5 1 v n (zs.map (fun z => Value.int .u8 z))) (hf : Fit zs) (hl : zs.length ≤ 140737488351232) : BytesAt w.heap.size w v zs := by
  obtain ⟨a, cap, rfl, hn, hz⟩ := own_form h
  simp only [List.length_map] at hn
  subst hn
  refine ⟨hf, hl, a, cap, rfl, hz.imp id ?_⟩
  rintro ⟨g, rfl, _, hg, hc⟩
  refine ⟨g, 0, rfl, hg, fun j hj => ?_⟩
  rw [Nat.zero_add]
  exact hc j _ (by rw [List.getElem?_map]; simp [hj])

end Go.Proofs.Ytbaeogoojpngbaa
