/-
  The contracts of package sum's iterators: words gives the words of the bytes of its parts, turned gives each with its bits turned.
-/
import Derived.Test.YtnlaomjhnndblaaSeq
import Derived.Test.YtnlaomjhnndblaaPlain
import Derived.Test.YtnlaomjhnndblaaProg
namespace Go.Proofs.Ytnlaomjhnndblaa
open Go Go.RowKit Go.Shelf
attribute [local go_sem] Oper.semAt_some

def wordsV (f : List Int) : List Value := (wordsL f).map (fun z => .int .u16 z)
theorem wordsV_at (f : List Int) (k : Nat) (h : 2 * k < f.length) : (wordsV f)[k]? = some (.int .u16 (wd f k)) := by
  rw [wordsV, List.getElem?_map, wordsL_at f k h]; rfl

/-- The slice value v holds the bytes zs, in a block below n₀. -/
structure BytesAt (n₀ : Nat) (W : World) (v : Value) (zs : List Int) : Prop where
  fit : Fit zs
  len : zs.length ≤ 140737488351232
  val : ∃ a cap, v = .slice a zs.length cap ∧ (zs.length = 0 ∨ ∃ b off, a = some ⟨b, off, none⟩ ∧ b < n₀ ∧ ∀ j, j < zs.length → W.cell? ⟨b, off + j, none⟩ = some (.int .u8 (zs[j]?.getD 0)))

theorem BytesAt.below {n₀ : Nat} {A B : World} {v : Value} {zs : List Int} (h : BytesAt n₀ A v zs) (hb : Below n₀ A B) : BytesAt n₀ B v zs := by
  obtain ⟨h1, h2, a, cap, hv, hz⟩ := h
  refine ⟨h1, h2, a, cap, hv, hz.imp id ?_⟩
  rintro ⟨b, off, rfl, hlt, hc⟩
  exact ⟨b, off, rfl, hlt, fun j hj => (hb.cell (p := ⟨b, off + j, none⟩) hlt).trans (hc j hj)⟩

/-- The slice value v holds the parts ps. -/
structure PartsAt (n₀ : Nat) (W : World) (v : Value) (ps : List (List Int)) : Prop where
  len : ps.length ≤ 140737488351232
  val : ∃ a cap, v = .slice a ps.length cap ∧ (ps.length = 0 ∨ ∃ b off, a = some ⟨b, off, none⟩ ∧ b < n₀ ∧ ∀ j, j < ps.length → ∃ u, W.cell? ⟨b, off + j, none⟩ = some u ∧ BytesAt n₀ W u (ps[j]?.getD []))

theorem PartsAt.below {n₀ : Nat} {A B : World} {v : Value} {ps : List (List Int)} (h : PartsAt n₀ A v ps) (hb : Below n₀ A B) : PartsAt n₀ B v ps := by
  obtain ⟨h2, a, cap, hv, hz⟩ := h
  refine ⟨h2, a, cap, hv, hz.imp id ?_⟩
  rintro ⟨b, off, rfl, hlt, hc⟩
  refine ⟨b, off, rfl, hlt, fun j hj => ?_⟩
  obtain ⟨u, hu, hbu⟩ := hc j hj
  exact ⟨u, (hb.cell (p := ⟨b, off + j, none⟩) hlt).trans hu, hbu.below hb⟩

theorem PartsAt.fit {n₀ : Nat} {A : World} {v : Value} {ps : List (List Int)} (h : PartsAt n₀ A v ps) : Fit ps.flatten := by
  obtain ⟨_, a, cap, _, hz⟩ := h
  intro z hz'
  obtain ⟨zs, hm, hin⟩ := List.mem_flatten.1 hz'
  obtain ⟨j, hj, rfl⟩ := List.getElem_of_mem hm
  rcases hz with hz | ⟨b, off, _, _, hc⟩
  · omega
  · obtain ⟨u, _, hf, _⟩ := hc j hj
    exact hf z (by simpa [hj] using hin)

/-- What words' closure holds when p bytes of f have come: an odd byte waits. -/
def St (f : List Int) (p : Nat) (h t : Value) : Prop :=
  (p % 2 = 0 ∧ t = .bool false ∧ ∃ z, h = .int .u16 z) ∨ (p % 2 = 1 ∧ t = .bool true ∧ h = .int .u16 (f[p - 1]?.getD 0 * 256))

set_option maxRecDepth 100000 in
set_option maxHeartbeats 1000000 in
theorem words1_gives (Bp : Nat) (v : Value) (ps : List (List Int)) (w : World) (hlB : Bp < w.heap.size) (hBp : w.cell? ⟨Bp, 0, none⟩ = some v) (hp : PartsAt w.heap.size w v ps) :
    Gives Try.prog 95 #[.pointer (some ⟨Bp, 0, none⟩)] (wordsV ps.flatten) w := by
  intro l J W hW hJ hY h0 n
  refine callsIn_wide.2 ((callsIn_wide (n := 9)).1 ?_)
  have hBp' : W.cell? ⟨Bp, 0, none⟩ = some v := (hW.cell (p := ⟨Bp, 0, none⟩) hlB).trans hBp
  have hFit := hp.fit
  obtain ⟨hlen, a, cap, rfl, hz⟩ := hp
  have hpa := pre_all ps
  have hfa := flat_at ps
  have hps := pre_succ ps
  generalize hN : ps.length = N at *
  generalize hf : ps.flatten = f at *
  clear hf hN
  have HA : Hid (∀ (k j : Nat), k < N → j < (ps[k]?.getD []).length → f[pre ps k + j]? = (ps[k]?.getD [])[j]?) := hfa
  have HP : Hid (∀ (k : Nat), k < N → pre ps (k + 1) = pre ps k + (ps[k]?.getD []).length) := hps
  have HL : Hid (pre ps N = f.length) := hpa
  clear hfa hps hpa
  refine callsIn_of_wp Try.func95 rfl trivial ?_ rfl
  simp only [Try.ntmps95, List.size_toArray, List.length_cons, List.length_nil, Nat.reduceAdd, Nat.reduceSub, Array.replicate_succ, Array.replicate_zero, List.push_toArray, List.append_toArray, List.nil_append, List.cons_append]
  gi_wp2
  gi_loopw [3, 4, 11] (fun h t i wr => ∃ k : Nat, k ≤ N ∧ i = .int .i64 k ∧ St f (pre ps k) h t ∧ J (pre ps k / 2) wr ∧ Below w.heap.size w wr) (fun _ _ i _ => N - (intOf i).toNat)
  case atStart => exact ⟨0, Nat.zero_le _, rfl, .inl ⟨by simp [pre_zero], rfl, _, rfl⟩, by simpa [pre_zero] using h0, hW⟩
  case round =>
    obtain ⟨k, hk, rfl, hst, hj, hb⟩ := hrel
    by_cases hlt : k < N
    · rcases hz with hz | ⟨b, off, rfl, hbn, hcell⟩
      · omega
      obtain ⟨u, hu, hfit, hzl, a2, cap2, rfl, hz2⟩ := hcell k hlt
      have hu' : wr.cell? ⟨b, off + k, none⟩ = some (.slice a2 (ps[k]?.getD []).length cap2) := (hb.cell (p := ⟨b, off + k, none⟩) hbn).trans hu
      have hP := HP.out k hlt
      have hA := fun j => HA.out k j hlt
      clear HP HA HL hcell hu
      generalize ps[k]?.getD [] = zs at *
      have HP : Hid (pre ps (k + 1) = pre ps k + zs.length) := hP
      have HA : Hid (∀ j : Nat, j < zs.length → f[pre ps k + j]? = zs[j]?) := hA
      clear hP hA
      generalize pre ps k = p at *
      gi_wp2
      gi_loopw [3, 4, 17] (fun h t i wx => ∃ j : Nat, j ≤ zs.length ∧ i = .int .i64 j ∧ St f (p + j) h t ∧ J ((p + j) / 2) wx ∧ Below w.heap.size w wx) (fun _ _ i _ => zs.length - (intOf i).toNat)
      case atStart => exact ⟨0, Nat.zero_le _, rfl, hst, hj, hb⟩
      case round =>
        clear hst hj hb hu'
        obtain ⟨j, hjl, rfl, hst, hj, hb⟩ := hrel
        by_cases hjt : j < zs.length
        · rcases hz2 with hz2 | ⟨b2, off2, rfl, hb2, hc2⟩
          · omega
          have hcj := (hb.cell (p := ⟨b2, off2 + j, none⟩) hb2).trans (hc2 j hjt)
          have hfj := hfit.at j
          have hpl : p + j < f.length := by
            have e : f[p + j]? = some zs[j] := by rw [HA.out j hjt]; simp [hjt]
            exact (List.getElem?_eq_some_iff.1 e).1
          have hfp : f[p + j]?.getD 0 = zs[j]?.getD 0 := by rw [HA.out j hjt]
          clear hc2 hfit
          generalize zs[j]?.getD 0 = c at *
          have HF : Hid (f[p + j]?.getD 0 = c) := hfp
          clear hfp
          rcases hst with ⟨hp2, rfl, z, rfl⟩ | ⟨hp2, rfl, rfl⟩
          · gi_wp2
            refine ⟨⟨j + 1, by omega, by simp, .inr ⟨by omega, rfl, ?_⟩, ?_, hb⟩, by simp [intOf]; omega⟩
            · rw [show p + (j + 1) - 1 = p + j from by omega, HF.out]
            · rw [show (p + (j + 1)) / 2 = (p + j) / 2 from by omega]; exact hj
          · have hx : (wordsV f)[(p + j) / 2]? = some (.int .u16 (bits BinOp.or IntKind.u16 (f[p + j - 1]?.getD 0 * 256) c)) := by
              rw [or_word _ c (hFit.at _).1 (hFit.at _).2 hfj.1 hfj.2, wordsV_at f _ (by omega), wd, show 2 * ((p + j) / 2) = p + j - 1 from by omega, show p + j - 1 + 1 = p + j from by omega, HF.out]
            generalize f[p + j - 1]?.getD 0 * 256 = d at *
            obtain ⟨fn, tmps, assign, body, hy, hR⟩ := hY _ _ wr hx hj (9 - 1)
            clear hx
            gi_wp2
            refine hR.mono ?_
            rintro e W3 ⟨rfl, hj3, hk3⟩
            gi_wp2
            refine ⟨⟨j + 1, by omega, by simp, .inl ⟨by omega, rfl, _, rfl⟩, ?_, hb.trans hk3.below⟩, by simp [intOf]; omega⟩
            rw [show (p + (j + 1)) / 2 = (p + j) / 2 + 1 from by omega]; exact hj3
        · obtain rfl : j = zs.length := by omega
          gi_wp2
          refine ⟨⟨k + 1, by omega, by simp, ?_, ?_, hb⟩, by simp [intOf]; omega⟩
          · rw [HP.out]; exact hst
          · rw [HP.out]; exact hj
    · obtain rfl : k = N := by omega
      rw [HL.out] at hst hj
      rcases hst with ⟨hp2, rfl, z, rfl⟩ | ⟨hp2, rfl, rfl⟩
      · gi_wp2
        go_end0
        exact ⟨⟨_, rfl⟩, by rw [wordsV, List.length_map, wordsL_length, show (f.length + 1) / 2 = f.length / 2 from by omega]; exact hj⟩
      · have hx : (wordsV f)[f.length / 2]? = some (.int .u16 (f[f.length - 1]?.getD 0 * 256)) := by
          rw [wordsV_at f _ (by omega), wd, show 2 * (f.length / 2) = f.length - 1 from by omega, show f.length - 1 + 1 = f.length from by omega]; simp
        generalize hc : f[f.length - 1]?.getD 0 * 256 = c at *
        obtain ⟨fn, tmps, assign, body, hy, hR⟩ := hY _ _ wr hx hj (9 - 1)
        clear hc hx
        gi_wp2
        refine hR.mono ?_
        rintro e W3 ⟨rfl, hj3, _⟩
        gi_wp2
        go_end0
        exact ⟨⟨_, rfl⟩, by rw [wordsV, List.length_map, wordsL_length, show (f.length + 1) / 2 = f.length / 2 + 1 from by omega]; exact hj3⟩

end Go.Proofs.Ytnlaomjhnndblaa
