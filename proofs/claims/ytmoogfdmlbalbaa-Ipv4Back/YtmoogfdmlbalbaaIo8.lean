/-
  Options as argument.
-/
import Derived.Test.YtmoogfdmlbalbaaIo7
namespace Go.Proofs.Ytmoogfdmlbalbaa
open Go Go.RowKit Go.ChangeShapes Go.WideShapes Go.ChangeAt
set_option linter.unusedVariables false
set_option linter.unusedSimpArgs false

theorem weights_mem_all {H : Type} {P : Program} {e : TypeId} : ∀ {l : List (DataW H)} {d : DataW H}, d ∈ l → ∀ n ∈ d.weights P e, n ∈ DataW.weightsAll P e l
  | x :: l, d, hd, n, hn => by
    simp only [DataW.weightsAll, List.mem_append]
    rcases List.mem_cons.1 hd with rfl | h
    · exact Or.inl hn
    · exact Or.inr (weights_mem_all h n hn)

theorem open_opts {H : Type} {enc : TypeId × Value → H} {W : World} {base : Nat} {v : Value} {d : DataW H} {p : List MemPlace} (hval : Value.okWide Try.prog W .any base 42 v)
    (h : DataW.Trod enc Try.prog W 0 (fun _ => true) true 42 v d p) (hz : ∀ k ∈ d.weights Try.prog 42, k ≤ reachBytes) : ∃ os, OptsAt W.heap.size W v os := by
  obtain ⟨a, len, cap, rfl⟩ := okWide_slice Try.underlying42 hval
  obtain ⟨fuel, hf⟩ := h
  rcases Go.Deep.open_slice_pairs Try.underlying42 Try.underlying76 (by kernel_rfl) rfl rfl (by kernel_rfl) (by kernel_rfl) hf with ⟨hcs, _⟩ | ⟨x, l, c, m, n, V0, V1, D0, D1, P0, P1, hcs, _, hl, hm, hmm, hx, hr⟩
  · simp [Value.cells] at hcs
    obtain ⟨rfl, rfl, rfl⟩ := hcs
    exact ⟨[], fun j => by simp [oK], by simp, none, 0, rfl, .inl rfl⟩
  · simp [Value.cells] at hcs
    obtain ⟨rfl, rfl, rfl⟩ := hcs
    simp only [if_true] at hmm
    subst hmm
    obtain ⟨rfl, _⟩ := Prod.mk.inj hx
    have hlen : len ≤ 140737488351232 := by
      have hb : Try.prog.bytesOf 76 = 32 := by kernel_rfl
      have := hz _ (by simp only [DataW.weights, Try.underlying42]; exact List.mem_cons_self)
      have e : reachBytes = 140737488351232 := by kernel_rfl
      rw [e, hb] at this
      simp at this
      omega
    have each : ∀ i, i < len → ∃ z : Int × List Int, V0 i = .int .u8 z.1 ∧ (0 ≤ z.1 ∧ z.1 < 256) ∧ BytesAt W.heap.size W (V1 i) z.2 := by
      intro i hi
      obtain ⟨_, _, r0, r1⟩ := hr i (by omega)
      obtain ⟨z0, e0, _, w0⟩ := DataW.trod_int Try.underlying5 r0
      have hb := bounds_u8 w0
      obtain ⟨v', zs, ev, hby⟩ := open_bytes1 r1 (fun k hk => hz k (by
        simp only [DataW.weights, Try.underlying42]
        refine List.mem_cons_of_mem _ (List.mem_append_left _ (weights_mem_all (d := .agg [D0 i, D1 i]) (List.mem_map.2 ⟨i, List.mem_range.2 hi, rfl⟩) k ?_))
        simp only [DataW.weights, Try.underlying76]
        exact DataW.weights_mem_each (j := 1) rfl rfl k hk))
      simp at e0 ev
      subst ev
      exact ⟨(z0, zs), e0, by simp; omega, hby⟩
    obtain ⟨os, ho⟩ : ∃ os : Opts, os.length = len ∧ ∀ i, i < len → V0 i = .int .u8 (oK os i) ∧ (0 ≤ oK os i ∧ oK os i < 256) ∧ BytesAt W.heap.size W (V1 i) (oD os i) := by
      obtain ⟨q, hq⟩ := Go.Deep.choose_lt each
      refine ⟨(List.range len).map q, by simp, fun i hi => ?_⟩
      have := hq i hi
      simpa [oK, oD, hi] using this
    refine ⟨os, fun j => ?_, by omega, some x, m, by rw [ho.1], ?_⟩
    · by_cases hj : j < len
      · exact (ho.2 j hj).2.1
      · have : os[j]? = none := List.getElem?_eq_none (by omega)
        simp [oK, this]
    · by_cases h0 : len = 0
      · exact .inl (by omega)
      · right
        have hr0 := (hr 0 (by omega)).1
        obtain ⟨b, off, spot⟩ := x
        have hspot : spot = none := by simpa [Addr.add] using World.cell?_spot hr0
        subst hspot
        refine ⟨b, off, rfl, by have := cell_block hr0; simpa [Addr.add] using this, fun j hj => ?_⟩
        obtain ⟨q0, q1, _, _⟩ := hr j (by omega)
        obtain ⟨e0, _, hb⟩ := ho.2 j (by omega)
        rw [add_plain] at q0 q1
        rw [e0] at q0
        exact ⟨q0, V1 j, q1, hb⟩

end Go.Proofs.Ytmoogfdmlbalbaa
