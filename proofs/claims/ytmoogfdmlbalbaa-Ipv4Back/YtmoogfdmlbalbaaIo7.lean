/-
  The document's SameOptions of equal rows; options as argument; what is packed is read.
-/
import Derived.Test.YtmoogfdmlbalbaaIo6
import Derived.Deep.SlicePairs
namespace Go.Proofs.Ytmoogfdmlbalbaa
open Go Go.RowKit
set_option linter.unusedVariables false
set_option linter.unusedSimpArgs false

def flatL : Opts → List Int
  | [] => []
  | o :: os => o.1 :: ((2 + o.2.length : Nat) : Int) :: (o.2 ++ flatL os)
theorem flatL_append : ∀ (a b : Opts), flatL (a ++ b) = flatL a ++ flatL b
  | [], b => rfl
  | o :: a, b => by simp [flatL, flatL_append a b]
theorem oFlat_take (os : Opts) : ∀ k, k ≤ os.length → oFlat os k = flatL (os.take k)
  | 0, _ => rfl
  | k + 1, h => by
    have hk : k < os.length := by omega
    have e : os[k]? = some os[k] := List.getElem?_eq_getElem hk
    rw [List.take_succ_eq_append_getElem hk, flatL_append, oFlat, oFlat_take os k (by omega)]
    simp [oK, oD, e, flatL]
theorem opts_zero (f m : Nat) : optsF f (List.replicate m 0) = ([], none) := by
  refine optsF_fin ?_
  cases m with
  | zero => exact .inl rfl
  | succ m =>
    right
    rw [List.replicate_succ, skipL_cons (by decide)]
    rfl
theorem opts_flat : ∀ (os : Opts) (m f : Nat), (∀ o ∈ os, 2 ≤ o.1 ∧ o.2.length ≤ 38) → os.length < f → optsF f (flatL os ++ List.replicate m 0) = (os, none)
  | [], m, f, _, _ => opts_zero f m
  | o :: os, m, f, h, hf => by
    obtain ⟨g, rfl⟩ : ∃ g, f = g + 1 := ⟨f - 1, by simp at hf; omega⟩
    obtain ⟨h1, h2⟩ := h o (by simp)
    have hs : skipL (flatL (o :: os) ++ List.replicate m 0) = flatL (o :: os) ++ List.replicate m 0 := by
      show skipL (o.1 :: _) = _
      exact skipL_cons (by omega)
    have e0 : gz (flatL (o :: os) ++ List.replicate m 0) 0 = o.1 := rfl
    have e1 : gz (flatL (o :: os) ++ List.replicate m 0) 1 = ((2 + o.2.length : Nat) : Int) := rfl
    have ht : (((2 + o.2.length : Nat) : Int)).toNat = 2 + o.2.length := by omega
    have hd : (flatL (o :: os) ++ List.replicate m 0).drop 2 = o.2 ++ (flatL os ++ List.replicate m 0) := by simp [flatL]
    have ih := opts_flat os m g (fun q hq => h q (by simp [hq])) (by simp at hf; omega)
    have hnz : ¬ (skipL (flatL (o :: os) ++ List.replicate m 0) = [] ∨ gz (skipL (flatL (o :: os) ++ List.replicate m 0)) 0 = 0) := by
      rw [hs, e0]
      intro c
      rcases c with c | c
      · simp [flatL] at c
      · omega
    have hnb : ¬ badO (skipL (flatL (o :: os) ++ List.replicate m 0)) := by
      rw [hs]
      unfold badO
      rw [e1]
      simp [flatL]
      omega
    rw [optsF_opt hnz hnb, hs, e0, e1, ht, show 2 + o.2.length - 2 = o.2.length by omega, ← List.drop_drop, hd]
    simp [ih]
theorem opts_pack {os : Opts} (h : oAll os os.length) (hl : (packR os os.length).length + 1 > os.length) : optsF ((packR os os.length).length + 1) (packR os os.length) = (os, none) := by
  have e : packR os os.length = flatL os ++ List.replicate (up4 (oTot os os.length) - oTot os os.length) 0 := by
    rw [packR, oFlat_take os os.length (Nat.le_refl _), List.take_length]
  rw [e] at hl ⊢
  refine opts_flat os _ _ (fun o ho => ?_) (by omega)
  obtain ⟨j, hj, rfl⟩ := List.getElem_of_mem ho
  have := h j hj
  have e : os[j]? = some os[j] := List.getElem?_eq_getElem hj
  simpa [oGood, oK, oD, e] using this

theorem oTot_ge {os : Opts} : ∀ k, k * 2 ≤ oTot os k
  | 0 => by simp
  | k + 1 => by
    have := oTot_ge (os := os) k
    simp only [oTot]
    omega
theorem opts_pack_len {os : Opts} (h : oAll os os.length) : os.length ≤ (packR os os.length).length := by
  rw [packR_length (Nat.le_refl _)]
  have := oTot_ge (os := os) os.length
  unfold up4
  omega

set_option maxHeartbeats 1000000 in
set_option maxRecDepth 100000 in
theorem SameOptions_same (va vb : Value) (os : Opts) (w : World) (ha : OptsAt w.heap.size w va os) (hb : OptsAt w.heap.size w vb os) :
    Calls Try.prog 30 #[va, vb] w fun e w' => e = .returned (.bool true) ∧ Below w.heap.size w w' := by
  obtain ⟨hfit, hlen, a, ka, rfl, hza⟩ := ha
  obtain ⟨_, _, b, kb, rfl, hzb⟩ := hb
  go_enter Try.func30, Try.ntmps30
  go_wp2
  go_loopw [5] (fun i wr => ∃ k : Nat, k ≤ os.length ∧ i = .int .i64 k ∧ Below w.heap.size w wr) (fun i _ => os.length - (intOf i).toNat)
  case atStart => exact ⟨0, Nat.zero_le _, rfl, Below.refl _ _⟩
  case round =>
    obtain ⟨k, hk, rfl, hB⟩ := hrel
    by_cases hlt : k < os.length
    · have hkk : (k : Int) < (os.length : Int) := by omega
      rcases hza with hza | ⟨ba, oa, rfl, hba, hca⟩
      · omega
      rcases hzb with hzb | ⟨bb, ob, rfl, hbb, hcb⟩
      · omega
      obtain ⟨a0, sa, a1, hsa⟩ := hca k hlt
      obtain ⟨b0, sb, b1, hsb⟩ := hcb k hlt
      have x0 := (hB.cell (p := ⟨ba, oa + k * 2, none⟩) hba).trans a0
      have x1 := (hB.cell (p := ⟨ba, oa + k * 2 + 1, none⟩) hba).trans a1
      have y0 := (hB.cell (p := ⟨bb, ob + k * 2, none⟩) hbb).trans b0
      have y1 := (hB.cell (p := ⟨bb, ob + k * 2 + 1, none⟩) hbb).trans b1
      have ta := (hsa.later hB.drew).text
      have tb := (hsb.later hB.drew).text
      have ta' := (hsa.later hB).text
      have tb' := (hsb.later hB).text
      obtain ⟨_, _, xa, xc, rfl, _⟩ := hsa
      obtain ⟨_, _, ya, yc, rfl, _⟩ := hsb
      have HB : Hid _ := hB
      generalize strOfNums (oD os k) = SS at *
      generalize (oD os k).length = L at *
      generalize oK os k = K at *
      clear hca hcb a0 a1 b0 b1 hfit hB
      go_wp2_with fail
      go_region
      all_goals
        go_wp2
        exact ⟨⟨k + 1, by omega, by simp, HB.out.drew⟩, by simp [intOf]; omega⟩
    · obtain rfl : k = os.length := by omega
      have HB : Hid _ := hB
      clear hza hzb hB
      go_wp2
      go_ret
      exact ⟨rfl, HB.out⟩

end Go.Proofs.Ytmoogfdmlbalbaa
