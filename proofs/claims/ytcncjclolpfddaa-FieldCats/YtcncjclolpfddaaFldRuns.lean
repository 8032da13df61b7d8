/-
  The walk of the statement FieldRuns: the runs that were put together are found at their places.
-/
import Derived.Test.YtcncjclolpfddaaFldCat
import Derived.Deep.SlicePairs
import Derived.ProofKit
import Derived.ChangeArms
namespace Go.Proofs.Ytcncjclolpfddaa
set_option linter.unusedVariables false
set_option linter.unusedSimpArgs false
open Go Go.RowKit
attribute [local go_sem] Oper.semAt_some

/-- What an argument's reading says of a slice of runs: its first n, whatever n. -/
def IsRuns (w : World) (a : Option Addr) (len cap : Nat) : Prop :=
  (a = none → len = 0) ∧ len ≤ cap ∧ cap ≤ maxLen ∧ ∀ n, n ≤ len → ∃ rs : List (Int × Nat), rs.length = n ∧ RunsAt w.heap.size w (.slice a n cap) rs

theorem cell_block {w : World} {a : Addr} {v : Value} (h : w.cell? a = some v) : a.block < w.heap.size := by
  simp only [World.cell?] at h
  cases hb : w.heap[a.block]? with
  | none => rw [hb] at h; simp at h
  | some o => exact (Array.getElem?_eq_some_iff.1 hb).1

open Go.ChangeShapes Go.WideShapes Go.ChangeAt in
theorem open_runs {H : Type} {enc : TypeId × Value → H} {W : World} {base : Nat} {v : Value} {d : DataW H} {p : List MemPlace} (hval : Value.okWide Try.prog W .any base 44 v)
    (h : DataW.Trod enc Try.prog W 0 (fun _ => true) true 44 v d p) : ∃ a len cap, v = .slice a len cap ∧ IsRuns W a len cap := by
  obtain ⟨a, len, cap, rfl⟩ := okWide_slice Try.underlying44 hval
  refine ⟨a, len, cap, rfl, ?_⟩
  obtain ⟨fuel, hf⟩ := h
  rcases Go.Deep.open_slice_pairs Try.underlying44 Try.underlying60 (by kernel_rfl) rfl rfl (by kernel_rfl) (by kernel_rfl) hf with ⟨hcs, _⟩ | ⟨x, l, c, m, n, V0, V1, D0, D1, P0, P1, hcs, _, hl, hm, hmm, _, hr⟩
  · simp [Value.cells] at hcs
    obtain ⟨rfl, rfl, rfl⟩ := hcs
    refine ⟨fun _ => rfl, Nat.le_refl _, Nat.zero_le _, fun n hn => ⟨[], by simp; omega, ?_⟩⟩
    obtain rfl : n = 0 := by omega
    exact ⟨fun j => ⟨by simp [rN], by simp [rV]⟩, none, 0, rfl, .inl rfl⟩
  · simp [Value.cells] at hcs
    obtain ⟨rfl, rfl, rfl⟩ := hcs
    simp only [if_true] at hmm
    subst hmm
    refine ⟨(fun e => by cases e), hl, hm, fun n hn => ?_⟩
    have each : ∀ i, i < m → ∃ z : Int × Int, V0 i = .int .i64 z.1 ∧ V1 i = .int .u64 z.2 ∧ (Lit.int .i64 z.1).wf = true ∧ (Lit.int .u64 z.2).wf = true := by
      intro i hi
      obtain ⟨_, _, r0, r1⟩ := hr i hi
      obtain ⟨z0, e0, _, w0⟩ := DataW.trod_int Try.underlying3 r0
      obtain ⟨z1, e1, _, w1⟩ := DataW.trod_int Try.underlying23 r1
      simp at e0 e1
      exact ⟨(z0, z1), e0, e1, w0, w1⟩
    refine ⟨(List.range n).map (fun i => (intOf (V0 i), (intOf (V1 i)).toNat)), by simp, ?_⟩
    have hget : ∀ j, j < n → rN ((List.range n).map (fun i => (intOf (V0 i), (intOf (V1 i)).toNat))) j = intOf (V0 j) ∧ rV ((List.range n).map (fun i => (intOf (V0 i), (intOf (V1 i)).toNat))) j = (intOf (V1 j)).toNat := by
      intro j hj
      simp [rN, rV, hj]
    refine ⟨fun j => ?_, some x, m, by simp, ?_⟩
    · by_cases hj : j < n
      · obtain ⟨z, e0, e1, w0, w1⟩ := each j (by omega)
        rw [(hget j hj).1, (hget j hj).2, e0, e1]
        have b0 := bounds_i64 w0
        have b1 := bounds_u64 w1
        simp only [intOf]
        exact ⟨b0, by omega⟩
      · have : ((List.range n).map (fun i => (intOf (V0 i), (intOf (V1 i)).toNat)))[j]? = none := List.getElem?_eq_none (by simp; omega)
        simp [rN, rV, this]
    · by_cases h0 : n = 0
      · exact .inl (by simp [h0])
      · right
        have hr0 := (hr 0 (by omega)).1
        obtain ⟨b, off, spot⟩ := x
        have hspot : spot = none := by simpa [Addr.add] using World.cell?_spot hr0
        subst hspot
        refine ⟨b, off, rfl, by have := cell_block hr0; simpa [Addr.add] using this, fun j hj => ?_⟩
        have hjn : j < n := by simpa using hj
        obtain ⟨z, e0, e1, w0, w1⟩ := each j (by omega)
        obtain ⟨q0, q1, _, _⟩ := hr j (by omega)
        have b1 := bounds_u64 w1
        rw [(hget j hjn).1, (hget j hjn).2]
        rw [add_plain] at q0 q1
        rw [e0] at q0
        rw [e1] at q1
        rw [e0, e1]
        simp only [intOf]
        refine ⟨q0, ?_⟩
        rw [Int.toNat_of_nonneg b1.1]
        exact q1

theorem CatIs.two {rs : List (Int × Nat)} {bs : List Int} {er : Int} (h : CatIs rs bs er) : ((er != 0) = true ∧ bs = []) ∨ (allOk rs rs.length ∧ total rs rs.length ≤ 65536 ∧ er = 0 ∧ bs = catRow rs (total rs rs.length) rs.length) := by
  rcases h with ⟨_, _, _, hn, rfl, rfl⟩ | ⟨_, _, rfl, rfl⟩ | h
  · exact .inl ⟨by simpa using hn, rfl⟩
  · exact .inl ⟨rfl, rfl⟩
  · exact .inr h

theorem BytesAt.lenOf' {n₀ : Nat} {w : World} {r : Value} {zs : List Int} (h : BytesAt n₀ w r zs) : ∃ a cap, r = .slice a zs.length cap := by
  obtain ⟨_, _, a, cap, e, _⟩ := h
  exact ⟨a, cap, e⟩

set_option maxHeartbeats 4000000 in
set_option maxRecDepth 100000 in
theorem fieldRuns_big (x : Addr) (len cap : Nat) (w : World) (p2 : len ≤ cap) (p3 : cap ≤ 9223372036854775807) (hbig : 100 < len) (rs : List (Int × Nat)) (hl : rs.length = 100) (hrs : RunsAt w.heap.size w (.slice (some x) 100 cap) rs) :
    Calls Try.prog 8 #[.slice (some x) len cap] w fun e w' => e = .returned (.bool true) ∧ Below w.heap.size w w' := by
  have hC := fun W (hW : Below w.heap.size w W) => cat_calls _ rs W (hrs.later hW) (by omega)
  have HC : Hid _ := hC
  obtain ⟨hbnd, a', cap', e, hz⟩ := hrs
  rw [hl] at e hz
  cases e
  have HL : Hid _ := hl
  clear hC hl
  go_enter Try.func8, Try.ntmps8
  go_wp2_with fail
  refine Calls.mono (HC.out _ (Below.refl _ _)) ?_
  rintro e w1 ⟨r, bs, er, rfl, hr, hB1, hcat⟩
  obtain ⟨ar, cr, rfl⟩ := hr.lenOf'
  rcases hcat.two with ⟨hq, rfl⟩ | ⟨hall, hT, rfl, rfl⟩
  · clear hcat
    go_wp2_with fail
    refine (alive_calls _).mono ?_
    rintro e w5 ⟨rfl, hB5⟩
    go_wp2
    go_ret
    exact ⟨rfl, hB1.trans (hB5.mono hB1.size)⟩
  · clear hcat
    rw [HL.out] at hall hT hr
    rw [HL.out]
    have hmono := fun k hk => total_mono rs k 100 hk
    have hget := fun k hk => cat_get rs 100 k hk hall
    have hlen : (catRow rs (total rs 100) 100).length = (total rs 100 + 7) / 8 := catRow_length ..
    obtain ⟨T, hTT⟩ : ∃ T, T = total rs 100 := ⟨_, rfl⟩
    rw [← hTT] at hmono hget hlen hT hr
    obtain ⟨f, hfd⟩ : ∃ f, f = (T + 7) / 8 := ⟨_, rfl⟩
    rw [← hfd] at hlen
    rw [← hTT]
    have hgc := fun k (hk : k < 100) => get_calls _ _ (total rs k : Nat) (rN rs k) w1 hr (by have := hmono k (by omega); omega) (hbnd k).1
    generalize catRow rs T 100 = row at *
    rw [hlen] at hgc
    rw [hlen]
    have hgc2 : ∀ k, k < 100 → Calls Try.prog 10 #[.slice ar f cr, .int .i64 (total rs k : Nat), .int .i64 (rN rs k)] w1 fun e w' => e = .returned (.tuple #[.int .u64 (rV rs k : Nat), .int .i64 0]) ∧ w' = w1 := by
      intro k hk
      have h1 := hgc k hk
      have hok := runE_ok (hall k hk)
      have hm := hmono (k + 1) (by omega)
      simp only [total] at hm
      have ok : okG row.length (total rs k : Nat) (rN rs k) = true := by
        simp [okG, thereB, hlen]
        omega
      have e1 : getV row (total rs k : Nat) (rN rs k) = (rV rs k : Nat) := by
        rw [getV, if_pos ok, Int.toNat_natCast, hget k hk]
      have e2 : getE row (total rs k : Nat) (rN rs k) = 0 := by rw [getE, if_pos ok]
      rw [e1, e2] at h1
      exact h1
    have hq8 : ((f : Int) == ((T : Int) + 7) / 8) = true := by simp; omega
    have hf4 : f ≤ 10000 := by omega
    have HG : Hid _ := hgc2
    have HM : Hid _ := hmono
    have HT : Hid _ := hTT
    clear hgc hgc2 hmono hget hlen hTT hr hfd
    go_wp2
    go_loopw [5, 6] (fun x i wr => ∃ k : Nat, k ≤ 100 ∧ i = .int .i64 k ∧ x = .int .i64 (total rs k : Nat) ∧ wr = w1) (fun _ i _ => 100 - (intOf i).toNat)
    case atStart => exact ⟨0, Nat.zero_le _, rfl, rfl, rfl⟩
    case round =>
      obtain ⟨k, hk, rfl, rfl, rfl⟩ := hrel
      by_cases hlt : k < 100
      · have hz' := hz
        rcases hz' with hz' | ⟨b, off, hab, hbn, hc⟩
        · omega
        cases hab
        have c1 := (hB1.cell (p := ⟨b, off + k * 2, none⟩) hbn).trans (hc k hlt).1
        have c2 := (hB1.cell (p := ⟨b, off + k * 2 + 1, none⟩) hbn).trans (hc k hlt).2
        have hg := HG.out k hlt
        have hok := runE_ok (hall k hlt)
        have hm := HM.out (k + 1) (by omega)
        have htot : total rs (k + 1) = total rs k + (rN rs k).toNat := rfl
        obtain ⟨m, hmm⟩ := Int.eq_ofNat_of_zero_le hok.1
        rw [hmm] at c1 hg htot
        rw [Int.toNat_natCast] at htot
        clear hok hmm
        generalize hT1 : total rs (k + 1) = T1 at *
        generalize hT0 : total rs k = T0 at *
        generalize rV rs k = V at *
        have HGG : Hid _ := hg
        have HT1 : Hid _ := hT1
        have htot2 : ((T1 : Nat) : Int) = (T0 : Int) + m := by omega
        have HT2 : Hid _ := htot2
        have hb6 : T0 + m ≤ 65536 := by omega
        clear hg hT1 hT0 htot htot2 hc hz HG hq8 hall
        go_wp2_with fail
        refine Calls.mono HGG.out ?_
        rintro e w2 ⟨rfl, rfl⟩
        go_wp2
        refine ⟨⟨k + 1, by omega, by simp, ?_, trivial⟩, by simp [intOf]; omega⟩
        rw [HT1.out, HT2.out]
      · obtain rfl : k = 100 := by omega
        rw [← HT.out]
        go_wp2_with fail
        refine (alive_calls _).mono ?_
        rintro e w5 ⟨rfl, hB5⟩
        go_wp2
        go_ret
        exact ⟨rfl, hB1.trans (hB5.mono hB1.size)⟩

set_option maxHeartbeats 4000000 in
set_option maxRecDepth 100000 in
theorem fieldRuns_small (a : Option Addr) (len cap : Nat) (w : World) (p2 : len ≤ cap) (p3 : cap ≤ 9223372036854775807) (hbig : len ≤ 100) (rs : List (Int × Nat)) (hl : rs.length = len) (hrs : RunsAt w.heap.size w (.slice a len cap) rs) :
    Calls Try.prog 8 #[.slice a len cap] w fun e w' => e = .returned (.bool true) ∧ Below w.heap.size w w' := by
  have hC := fun W (hW : Below w.heap.size w W) => cat_calls _ rs W (hrs.later hW) (by omega)
  have HC : Hid _ := hC
  obtain ⟨hbnd, a', cap', e, hz⟩ := hrs
  rw [hl] at e hz
  cases e
  have HL : Hid _ := hl
  clear hC hl
  go_enter Try.func8, Try.ntmps8
  go_wp2_with fail
  refine Calls.mono (HC.out _ (Below.refl _ _)) ?_
  rintro e w1 ⟨r, bs, er, rfl, hr, hB1, hcat⟩
  obtain ⟨ar, cr, rfl⟩ := hr.lenOf'
  rcases hcat.two with ⟨hq, rfl⟩ | ⟨hall, hT, rfl, rfl⟩
  · clear hcat
    go_wp2_with fail
    refine (alive_calls _).mono ?_
    rintro e w5 ⟨rfl, hB5⟩
    go_wp2
    go_ret
    exact ⟨rfl, hB1.trans (hB5.mono hB1.size)⟩
  · clear hcat
    rw [HL.out] at hall hT hr
    rw [HL.out]
    have hmono := fun k hk => total_mono rs k len hk
    have hget := fun k hk => cat_get rs len k hk hall
    have hlen : (catRow rs (total rs len) len).length = (total rs len + 7) / 8 := catRow_length ..
    obtain ⟨T, hTT⟩ : ∃ T, T = total rs len := ⟨_, rfl⟩
    rw [← hTT] at hmono hget hlen hT hr
    obtain ⟨f, hfd⟩ : ∃ f, f = (T + 7) / 8 := ⟨_, rfl⟩
    rw [← hfd] at hlen
    rw [← hTT]
    have hgc := fun k (hk : k < len) => get_calls _ _ (total rs k : Nat) (rN rs k) w1 hr (by have := hmono k (by omega); omega) (hbnd k).1
    generalize catRow rs T len = row at *
    rw [hlen] at hgc
    rw [hlen]
    have hgc2 : ∀ k, k < len → Calls Try.prog 10 #[.slice ar f cr, .int .i64 (total rs k : Nat), .int .i64 (rN rs k)] w1 fun e w' => e = .returned (.tuple #[.int .u64 (rV rs k : Nat), .int .i64 0]) ∧ w' = w1 := by
      intro k hk
      have h1 := hgc k hk
      have hok := runE_ok (hall k hk)
      have hm := hmono (k + 1) (by omega)
      simp only [total] at hm
      have ok : okG row.length (total rs k : Nat) (rN rs k) = true := by
        simp [okG, thereB, hlen]
        omega
      have e1 : getV row (total rs k : Nat) (rN rs k) = (rV rs k : Nat) := by
        rw [getV, if_pos ok, Int.toNat_natCast, hget k hk]
      have e2 : getE row (total rs k : Nat) (rN rs k) = 0 := by rw [getE, if_pos ok]
      rw [e1, e2] at h1
      exact h1
    have hq8 : ((f : Int) == ((T : Int) + 7) / 8) = true := by simp; omega
    have hf4 : f ≤ 10000 := by omega
    have HG : Hid _ := hgc2
    have HM : Hid _ := hmono
    have HT : Hid _ := hTT
    clear hgc hgc2 hmono hget hlen hTT hr hfd
    go_wp2
    go_loopw [5, 6] (fun x i wr => ∃ k : Nat, k ≤ len ∧ i = .int .i64 k ∧ x = .int .i64 (total rs k : Nat) ∧ wr = w1) (fun _ i _ => len - (intOf i).toNat)
    case atStart => exact ⟨0, Nat.zero_le _, rfl, rfl, rfl⟩
    case round =>
      obtain ⟨k, hk, rfl, rfl, rfl⟩ := hrel
      by_cases hlt : k < len
      · have hz' := hz
        rcases hz' with hz' | ⟨b, off, hab, hbn, hc⟩
        · omega
        cases hab
        have c1 := (hB1.cell (p := ⟨b, off + k * 2, none⟩) hbn).trans (hc k hlt).1
        have c2 := (hB1.cell (p := ⟨b, off + k * 2 + 1, none⟩) hbn).trans (hc k hlt).2
        have hg := HG.out k hlt
        have hok := runE_ok (hall k hlt)
        have hm := HM.out (k + 1) (by omega)
        have htot : total rs (k + 1) = total rs k + (rN rs k).toNat := rfl
        obtain ⟨m, hmm⟩ := Int.eq_ofNat_of_zero_le hok.1
        rw [hmm] at c1 hg htot
        rw [Int.toNat_natCast] at htot
        clear hok hmm
        generalize hT1 : total rs (k + 1) = T1 at *
        generalize hT0 : total rs k = T0 at *
        generalize rV rs k = V at *
        have HGG : Hid _ := hg
        have HT1 : Hid _ := hT1
        have htot2 : ((T1 : Nat) : Int) = (T0 : Int) + m := by omega
        have HT2 : Hid _ := htot2
        have hb6 : T0 + m ≤ 65536 := by omega
        clear hg hT1 hT0 htot htot2 hc hz HG hq8 hall
        go_wp2_with fail
        refine Calls.mono HGG.out ?_
        rintro e w2 ⟨rfl, rfl⟩
        go_wp2
        refine ⟨⟨k + 1, by omega, by simp, ?_, trivial⟩, by simp [intOf]; omega⟩
        rw [HT1.out, HT2.out]
      · obtain rfl : k = len := by omega
        rw [← HT.out]
        go_wp2_with fail
        refine (alive_calls _).mono ?_
        rintro e w5 ⟨rfl, hB5⟩
        go_wp2
        go_ret
        exact ⟨rfl, hB1.trans (hB5.mono hB1.size)⟩

theorem fieldRuns_walk (a : Option Addr) (len cap : Nat) (w : World) (h : IsRuns w a len cap) :
    Calls Try.prog 8 #[.slice a len cap] w fun e w' => e = .returned (.bool true) ∧ Below w.heap.size w w' := by
  obtain ⟨p1, p2, p3, hrun⟩ := h
  unfold maxLen at p3
  by_cases hbig : 100 < len
  · obtain ⟨rs, hl, hrs⟩ := hrun 100 (by omega)
    cases a with
    | none => have := p1 rfl; omega
    | some x => exact fieldRuns_big x len cap w p2 (by omega) hbig rs hl hrs
  · obtain ⟨rs, hl, hrs⟩ := hrun len (Nat.le_refl _)
    exact fieldRuns_small a len cap w p2 (by omega) (by omega) rs hl hrs

theorem fieldRuns_open {H : Type} {enc : TypeId × Value → H} {W : World} {base : Nat} (v0 : Value) (o0 : Value.okWide Try.prog W .any base 44 v0) {d : DataW H} {p : List MemPlace} (h0 : DataW.Trod enc Try.prog W 0 (fun _ => true) true 44 v0 d p) :
    Calls Try.prog 8 #[v0] W fun e w' => e = .returned (.bool true) ∧ Below W.heap.size W w' := by
  obtain ⟨a, len, cap, rfl, h⟩ := open_runs o0 h0
  exact fieldRuns_walk a len cap W h

end Go.Proofs.Ytcncjclolpfddaa
