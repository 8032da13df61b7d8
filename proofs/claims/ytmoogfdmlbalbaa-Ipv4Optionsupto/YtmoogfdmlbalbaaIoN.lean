/-
  The document's SameOptions of equal rows; options as argument; what is packed is read.
  Options as argument.
-/
import Derived.Test.YtmoogfdmlbalbaaIoM
import Derived.Deep.SlicePairs
namespace Go.Proofs.Ytmoogfdmlbalbaa
open Go Go.RowKit
set_option linter.unusedVariables false
set_option linter.unusedSimpArgs false

def flatL : Opts → List Int
  | [] => []
  | o :: os => o.1 :: ((2 + o.2.length : Nat) : Int) :: (o.2 ++ flatL os)
theorem flatL_append : ∀ (a b : Opts), flatL (a ++ b) = flatL a ++ flatL b
  | [], b => rfl
  | o :: a, b => by simp [flatL, flatL_append a b]
theorem oFlat_take (os : Opts) : ∀ k, k ≤ os.length → oFlat os k = flatL (os.take k)
  | 0, _ => rfl
  | k + 1, h => by
    have hk : k < os.length := by omega
    have e : os[k]? = some os[k] := List.getElem?_eq_getElem hk
    rw [List.take_succ_eq_append_getElem hk, flatL_append, oFlat, oFlat_take os k (by omega)]
    simp [oK, oD, e, flatL]
theorem opts_zero (f m : Nat) : optsF f (List.replicate m 0) = ([], none) := by
  refine optsF_fin ?_
  cases m with
  | zero => exact .inl rfl
  | succ m =>
    right
    rw [List.replicate_succ, skipL_cons (by decide)]
    rfl
theorem opts_flat : ∀ (os : Opts) (m f : Nat), (∀ o ∈ os, 2 ≤ o.1 ∧ o.2.length ≤ 38) → os.length < f → optsF f (flatL os ++ List.replicate m 0) = (os, none)
  | [], m, f, _, _ => opts_zero f m
  | o :: os, m, f, h, hf => by
    obtain ⟨g, rfl⟩ : ∃ g, f = g + 1 := ⟨f - 1, by simp at hf; omega⟩
    obtain ⟨h1, h2⟩ := h o (by simp)
    have hs : skipL (flatL (o :: os) ++ List.replicate m 0) = flatL (o :: os) ++ List.replicate m 0 := by
      show skipL (o.1 :: _) = _
      exact skipL_cons (by omega)
    have e0 : gz (flatL (o :: os) ++ List.replicate m 0) 0 = o.1 := rfl
    have e1 : gz (flatL (o :: os) ++ List.replicate m 0) 1 = ((2 + o.2.length : Nat) : Int) := rfl
    have ht : (((2 + o.2.length : Nat) : Int)).toNat = 2 + o.2.length := by omega
    have hd : (flatL (o :: os) ++ List.replicate m 0).drop 2 = o.2 ++ (flatL os ++ List.replicate m 0) := by simp [flatL]
    have ih := opts_flat os m g (fun q hq => h q (by simp [hq])) (by simp at hf; omega)
    have hnz : ¬ (skipL (flatL (o :: os) ++ List.replicate m 0) = [] ∨ gz (skipL (flatL (o :: os) ++ List.replicate m 0)) 0 = 0) := by
      rw [hs, e0]
      intro c
      rcases c with c | c
      · simp [flatL] at c
      · omega
    have hnb : ¬ badO (skipL (flatL (o :: os) ++ List.replicate m 0)) := by
      rw [hs]
      unfold badO
      rw [e1]
      simp [flatL]
      omega
    rw [optsF_opt hnz hnb, hs, e0, e1, ht, show 2 + o.2.length - 2 = o.2.length by omega, ← List.drop_drop, hd]
    simp [ih]
theorem opts_pack {os : Opts} (h : oAll os os.length) (hl : (packR os os.length).length + 1 > os.length) : optsF ((packR os os.length).length + 1) (packR os os.length) = (os, none) := by
  have e : packR os os.length = flatL os ++ List.replicate (up4 (oTot os os.length) - oTot os os.length) 0 := by
    rw [packR, oFlat_take os os.length (Nat.le_refl _), List.take_length]
  rw [e] at hl ⊢
  refine opts_flat os _ _ (fun o ho => ?_) (by omega)
  obtain ⟨j, hj, rfl⟩ := List.getElem_of_mem ho
  have := h j hj
  have e : os[j]? = some os[j] := List.getElem?_eq_getElem hj
  simpa [oGood, oK, oD, e] using this

theorem oTot_ge {os : Opts} : ∀ k, k * 2 ≤ oTot os k
  | 0 => by simp
  | k + 1 => by
    have := oTot_ge (os := os) k
    simp only [oTot]
    omega
theorem opts_pack_len {os : Opts} (h : oAll os os.length) : os.length ≤ (packR os os.length).length := by
  rw [packR_length (Nat.le_refl _)]
  have := oTot_ge (os := os) os.length
  unfold up4
  omega

set_option maxHeartbeats 1000000 in
set_option maxRecDepth 100000 in
theorem SameOptions_same (va vb : Value) (os : Opts) (w : World) (ha : OptsAt w.heap.size w va os) (hb : OptsAt w.heap.size w vb os) :
    Calls Try.prog 30 #[va, vb] w fun e w' => e = .returned (.bool true) ∧ Below w.heap.size w w' := by
  obtain ⟨hfit, hlen, a, ka, rfl, hza⟩ := ha
  obtain ⟨_, _, b, kb, rfl, hzb⟩ := hb
  go_enter Try.func30, Try.ntmps30
  go_wp2
  go_loopw [5] (fun i wr => ∃ k : Nat, k ≤ os.length ∧ i = .int .i64 k ∧ Below w.heap.size w wr) (fun i _ => os.length - (intOf i).toNat)
  case atStart => exact ⟨0, Nat.zero_le _, rfl, Below.refl _ _⟩
  case round =>
    obtain ⟨k, hk, rfl, hB⟩ := hrel
    by_cases hlt : k < os.length
    · have hkk : (k : Int) < (os.length : Int) := by omega
      rcases hza with hza | ⟨ba, oa, rfl, hba, hca⟩
      · omega
      rcases hzb with hzb | ⟨bb, ob, rfl, hbb, hcb⟩
      · omega
      obtain ⟨a0, sa, a1, hsa⟩ := hca k hlt
      obtain ⟨b0, sb, b1, hsb⟩ := hcb k hlt
      have x0 := (hB.cell (p := ⟨ba, oa + k * 2, none⟩) hba).trans a0
      have x1 := (hB.cell (p := ⟨ba, oa + k * 2 + 1, none⟩) hba).trans a1
      have y0 := (hB.cell (p := ⟨bb, ob + k * 2, none⟩) hbb).trans b0
      have y1 := (hB.cell (p := ⟨bb, ob + k * 2 + 1, none⟩) hbb).trans b1
      have ta := (hsa.later hB.drew).text
      have tb := (hsb.later hB.drew).text
      have ta' := (hsa.later hB).text
      have tb' := (hsb.later hB).text
      obtain ⟨_, _, xa, xc, rfl, _⟩ := hsa
      obtain ⟨_, _, ya, yc, rfl, _⟩ := hsb
      have HB : Hid _ := hB
      generalize strOfNums (oD os k) = SS at *
      generalize (oD os k).length = L at *
      generalize oK os k = K at *
      clear hca hcb a0 a1 b0 b1 hfit hB
      go_wp2_with fail
      go_region
      all_goals
        go_wp2
        exact ⟨⟨k + 1, by omega, by simp, HB.out.drew⟩, by simp [intOf]; omega⟩
    · obtain rfl : k = os.length := by omega
      have HB : Hid _ := hB
      clear hza hzb hB
      go_wp2
      go_ret
      exact ⟨rfl, HB.out⟩

end Go.Proofs.Ytmoogfdmlbalbaa

namespace Go.Proofs.Ytmoogfdmlbalbaa
open Go Go.RowKit Go.ChangeShapes Go.WideShapes Go.ChangeAt
set_option linter.unusedVariables false
set_option linter.unusedSimpArgs false

theorem weights_mem_all {H : Type} {P : Program} {e : TypeId} : ∀ {l : List (DataW H)} {d : DataW H}, d ∈ l → ∀ n ∈ d.weights P e, n ∈ DataW.weightsAll P e l
  | x :: l, d, hd, n, hn => by
    simp only [DataW.weightsAll, List.mem_append]
    rcases List.mem_cons.1 hd with rfl | h
    · exact Or.inl hn
    · exact Or.inr (weights_mem_all h n hn)

theorem open_opts {H : Type} {enc : TypeId × Value → H} {W : World} {base : Nat} {v : Value} {d : DataW H} {p : List MemPlace} (hval : Value.okWide Try.prog W .any base 42 v)
    (h : DataW.Trod enc Try.prog W 0 (fun _ => true) true 42 v d p) (hz : ∀ k ∈ d.weights Try.prog 42, k ≤ reachBytes) : ∃ os, OptsAt W.heap.size W v os := by
  obtain ⟨a, len, cap, rfl⟩ := okWide_slice Try.underlying42 hval
  obtain ⟨fuel, hf⟩ := h
  rcases Go.Deep.open_slice_pairs Try.underlying42 Try.underlying76 (by kernel_rfl) rfl rfl (by kernel_rfl) (by kernel_rfl) hf with ⟨hcs, _⟩ | ⟨x, l, c, m, n, V0, V1, D0, D1, P0, P1, hcs, _, hl, hm, hmm, hx, hr⟩
  · simp [Value.cells] at hcs
    obtain ⟨rfl, rfl, rfl⟩ := hcs
    exact ⟨[], fun j => by simp [oK], by simp, none, 0, rfl, .inl rfl⟩
  · simp [Value.cells] at hcs
    obtain ⟨rfl, rfl, rfl⟩ := hcs
    simp only [if_true] at hmm
    subst hmm
    obtain ⟨rfl, _⟩ := Prod.mk.inj hx
    have hlen : len ≤ 140737488351232 := by
      have hb : Try.prog.bytesOf 76 = 32 := by kernel_rfl
      have := hz _ (by simp only [DataW.weights, Try.underlying42]; exact List.mem_cons_self)
      have e : reachBytes = 140737488351232 := by kernel_rfl
      rw [e, hb] at this
      simp at this
      omega
    have each : ∀ i, i < len → ∃ z : Int × List Int, V0 i = .int .u8 z.1 ∧ (0 ≤ z.1 ∧ z.1 < 256) ∧ BytesAt W.heap.size W (V1 i) z.2 := by
      intro i hi
      obtain ⟨_, _, r0, r1⟩ := hr i (by omega)
      obtain ⟨z0, e0, _, w0⟩ := DataW.trod_int Try.underlying5 r0
      have hb := bounds_u8 w0
      obtain ⟨v', zs, ev, hby⟩ := open_bytes1 r1 (fun k hk => hz k (by
        simp only [DataW.weights, Try.underlying42]
        refine List.mem_cons_of_mem _ (List.mem_append_left _ (weights_mem_all (d := .agg [D0 i, D1 i]) (List.mem_map.2 ⟨i, List.mem_range.2 hi, rfl⟩) k ?_))
        simp only [DataW.weights, Try.underlying76]
        exact DataW.weights_mem_each (j := 1) rfl rfl k hk))
      simp at e0 ev
      subst ev
      exact ⟨(z0, zs), e0, by simp; omega, hby⟩
    obtain ⟨os, ho⟩ : ∃ os : Opts, os.length = len ∧ ∀ i, i < len → V0 i = .int .u8 (oK os i) ∧ (0 ≤ oK os i ∧ oK os i < 256) ∧ BytesAt W.heap.size W (V1 i) (oD os i) := by
      obtain ⟨q, hq⟩ := Go.Deep.choose_lt each
      refine ⟨(List.range len).map q, by simp, fun i hi => ?_⟩
      have := hq i hi
      simpa [oK, oD, hi] using this
    refine ⟨os, fun j => ?_, by omega, some x, m, by rw [ho.1], ?_⟩
    · by_cases hj : j < len
      · exact (ho.2 j hj).2.1
      · have : os[j]? = none := List.getElem?_eq_none (by omega)
        simp [oK, this]
    · by_cases h0 : len = 0
      · exact .inl (by omega)
      · right
        have hr0 := (hr 0 (by omega)).1
        obtain ⟨b, off, spot⟩ := x
        have hspot : spot = none := by simpa [Addr.add] using World.cell?_spot hr0
        subst hspot
        refine ⟨b, off, rfl, by have := cell_block hr0; simpa [Addr.add] using this, fun j hj => ?_⟩
        obtain ⟨q0, q1, _, _⟩ := hr j (by omega)
        obtain ⟨e0, _, hb⟩ := ho.2 j (by omega)
        rw [add_plain] at q0 q1
        rw [e0] at q0
        exact ⟨q0, V1 j, q1, hb⟩

end Go.Proofs.Ytmoogfdmlbalbaa
