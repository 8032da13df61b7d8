/-
  The contract of the document's Cat.
-/
import Derived.Test.YtcncjclolpfddaaFldRuns
namespace Go.Proofs.Ytcncjclolpfddaa
set_option linter.unusedVariables false
set_option linter.unusedSimpArgs false
open Go Go.RowKit
attribute [local go_sem] Oper.semAt_some

/-- One more bit of a run. -/
theorem numsV_snoc (l : List Nat) (b : Nat) : numsV (l ++ [b]) = numsV l ++ [.int .u64 (b : Nat)] := by simp [numsV]
def runTo (n v k : Nat) : List Nat := (List.range k).map (fun j => bk v (n - 1 - j))
theorem runTo_succ (l : List Nat) (n v k : Nat) : numsV (l ++ runTo n v (k + 1)) = numsV (l ++ runTo n v k) ++ [.int .u64 (bk v (n - 1 - k) : Nat)] := by
  simp [numsV, runTo, List.range_succ]

/-- What the document's Cat holds behind k runs: too many bits, or all of them. -/
def CatSt (rs : List (Int × Nat)) (k : Nat) (base : Nat) (m : Bool) (v : Value) (w : World) : Prop :=
  (m = true ∧ 65536 < total rs k ∧ ∃ (n : Nat) (l : List Nat), n ≤ 65536 ∧ w.ownsRow base 23 1 v n (numsV l)) ∨
  (m = false ∧ total rs k ≤ 65536 ∧ w.ownsRow base 23 1 v (total rs k) (numsV (catBits rs k)))

theorem CatSt.row {rs : List (Int × Nat)} {k base : Nat} {m : Bool} {v : Value} {w : World} (h : CatSt rs k base m v w) : ∃ (n : Nat) (l : List Nat), n ≤ 65536 ∧ w.ownsRow base 23 1 v n (numsV l) ∧ (m = false → n = total rs k ∧ l = catBits rs k) ∧ (m = true → 65536 < total rs k) := by
  rcases h with ⟨rfl, h1, n, l, hn, ho⟩ | ⟨rfl, h1, ho⟩
  · exact ⟨n, l, hn, ho, (fun e => by cases e), fun _ => h1⟩
  · exact ⟨_, _, h1, ho, (fun _ => ⟨rfl, rfl⟩), (fun e => by cases e)⟩

set_option maxHeartbeats 8000000 in
set_option maxRecDepth 100000 in
theorem Rcat_calls (v : Value) (rs : List (Int × Nat)) (w : World) (h : RunsAt w.heap.size w v rs) (hl : rs.length ≤ 1200) :
    Calls Try.prog 22 #[v] w fun e w' => CatPost rs w e w' := by
  obtain ⟨hbnd, a, cap, rfl, hz⟩ := h
  go_enter Try.func22, Try.ntmps22
  go_wp2
  go_loopw [4, 5, 6] (fun m x i wr => ∃ (k : Nat) (mb : Bool), k ≤ rs.length ∧ i = .int .i64 k ∧ m = .bool mb ∧ allOk rs k ∧ CatSt rs k w.heap.size mb x wr ∧ Below w.heap.size w wr) (fun _ _ i _ => rs.length - (intOf i).toNat)
  case atStart => exact ⟨0, false, Nat.zero_le _, rfl, rfl, fun j hj => absurd hj (by omega), .inr ⟨rfl, by simp [total], World.ownsRow_nil _ _ _ _⟩, Below.refl _ _⟩
  case round =>
    obtain ⟨k, mb, hk, rfl, rfl, hall, hst, hB⟩ := hrel
    obtain ⟨n0, l0, hn0, hown, hfalse, htrue⟩ := hst.row
    obtain ⟨av, cv, rfl, hav⟩ := own_nums hown
    have hln : l0.length = n0 := by simpa [numsV] using hown.1
    subst hln
    have hsz := hB.size
    have htl := total_le hall
    by_cases hlt : k < rs.length
    · have hz' := hz
      rcases hz' with hz' | ⟨b, off, rfl, hbn, hc⟩
      · omega
      have c1 := (hB.cell (p := ⟨b, off + k * 2, none⟩) hbn).trans (hc k hlt).1
      have c2 := (hB.cell (p := ⟨b, off + k * 2 + 1, none⟩) hbn).trans (hc k hlt).2
      have hcw := (hc k hlt).2
      have hbk := hbnd k
      have hsucc := allOk_succ (k := k) hall
      have htot : total rs (k + 1) = total rs k + (rN rs k).toNat := rfl
      have hcb : catBits rs (k + 1) = catBits rs k ++ runBits (rN rs k).toNat (rV rs k) := rfl
      have hbad : runE (rN rs k) (rV rs k) ≠ 0 → CatIs rs [] (runE (rN rs k) (rV rs k)) := fun hne => .inl ⟨k, hlt, hall, hne, rfl, rfl⟩
      have HS : Hid _ := hsucc
      have HTT : Hid _ := htot
      have HCB : Hid _ := hcb
      have HBD : Hid _ := hbad
      have HF : Hid _ := hfalse
      have HTR : Hid _ := htrue
      have HAV : Hid _ := hav
      clear hsucc htot hcb hbad hfalse htrue hav hc hz hbnd hst
      generalize hNk : rN rs k = N at *
      generalize hVk : rV rs k = V at *
      have HNk : Hid _ := hNk
      have HVk : Hid _ := hVk
      clear hNk hVk
      by_cases hN : N < 0 ∨ 64 < N
      · have e : runE N V = 30 := by unfold runE; rw [if_pos hN]
        have hcat := HBD.out (by rw [e]; decide)
        rw [e] at hcat
        have HCA : Hid (CatIs rs [] 30) := hcat
        clear hcat e
        rcases hN with hN | hN
        all_goals
          go_wp2
          go_ret2
          exact ⟨_, [], 30, rfl, nil_bytes _ _, hB, HCA.out⟩
      · obtain ⟨m, rfl⟩ := Int.eq_ofNat_of_zero_le (by omega : 0 ≤ N)
        have hm : m ≤ 64 := by omega
        have hfc := fun w => fits_calls V m w hbk.2 hm
        cases hw : wideB V m
        · rw [hw] at hfc
          have e : runE m V = 0 := by unfold runE; rw [if_neg hN, Int.toNat_natCast, hw]; rfl
          have hok' := HS.out e
          have HFC : Hid _ := hfc
          have HOK : Hid _ := hok'
          clear hfc hw e hok' HBD HS
          rw [Int.toNat_natCast] at HTT HCB
          have hmany : ∀ (wr' : World), wr' = wr → 65536 < total rs (k + 1) → CatSt rs (k + 1) w.heap.size true (.slice av l0.length cv) wr' := fun wr' e hT => by
            subst e
            exact .inl ⟨rfl, hT, l0.length, l0, hn0, hown⟩
          have HMY : Hid _ := hmany
          clear hmany
          cases mb
          · obtain ⟨hn, hl0⟩ := HF.out rfl
            by_cases hbig : 65536 < l0.length + m
            · have hT1 : 65536 < total rs (k + 1) := by rw [HTT.out, ← hn]; exact hbig
              have HT1 : Hid _ := hT1
              have HN0 : Hid _ := hn
              have HL0 : Hid _ := hl0
              clear hT1 hn hl0 HF HTR HAV HCB HTT
              have hbig2 : decide (65536 < (l0.length : Int) + (m : Int)) = true := by simp; omega
              go_wp2_with fail
              refine Calls.mono (HFC.out _) ?_
              rintro e w1 ⟨rfl, rfl⟩
              go_wp2
              go_loopw [5, 8] (fun x i wr' => x = .slice av l0.length cv ∧ i = .int .i64 0 ∧ wr' = w1) (fun _ _ _ => 0)
              case atStart => exact ⟨rfl, rfl, rfl⟩
              case round =>
                obtain ⟨rfl, rfl, rfl⟩ := hrel
                go_wp2
                exact ⟨⟨k + 1, true, by omega, by simp, rfl, HOK.out, HMY.out _ rfl HT1.out, hB⟩, by simp [intOf]; omega⟩
            · have hfin : ∀ (x : Value) (wr' : World), wr'.ownsRow w.heap.size 23 1 x (l0.length + m) (numsV (l0 ++ runTo m V m)) → CatSt rs (k + 1) w.heap.size false x wr' := by
                intro x wr' ho
                refine .inr ⟨rfl, by rw [HTT.out, ← hn]; omega, ?_⟩
                rw [HTT.out, HCB.out, ← hn, ← hl0]
                exact ho
              have HFI : Hid _ := hfin
              have hr0 : wr.ownsRow w.heap.size 23 1 (.slice av l0.length cv) (l0.length + 0) (numsV (l0 ++ runTo m V 0)) := by simpa [runTo] using hown
              have HR0 : Hid _ := hr0
              clear hfin hr0 hn hl0 HF HTR HAV HCB HTT HMY hown
              have hbig2 : decide (65536 < (l0.length : Int) + (m : Int)) = false := by simp; omega
              go_wp2_with fail
              refine Calls.mono (HFC.out _) ?_
              rintro e w1 ⟨rfl, rfl⟩
              go_wp2
              go_loopw [5, 8] (fun x i wr' => ∃ j : Nat, j ≤ m ∧ i = .int .i64 j ∧ wr'.ownsRow w.heap.size 23 1 x (l0.length + j) (numsV (l0 ++ runTo m V j)) ∧ Below w.heap.size w wr') (fun _ i _ => m - (intOf i).toNat)
              case atStart => exact ⟨0, Nat.zero_le _, rfl, HR0.out, hB⟩
              case round =>
                clear hB c1 c2 HR0 hsz
                obtain ⟨j, hj, rfl, hown, hB⟩ := hrel
                have hsz := hB.size
                by_cases hjl : j < m
                · have c2 := (hB.cell (p := ⟨b, off + k * 2 + 1, none⟩) hbn).trans hcw
                  have hsn := runTo_succ l0 m V j
                  have hbit : (((V : Nat) : Int) / 2 ^ (m - 1 - j)).tmod 2 = ((bk V (m - 1 - j) : Nat) : Int) := by
                    have := mod2_u8 (V : Int) (m - 1 - j) (by omega)
                    rw [Int.tmod_eq_emod_of_nonneg (Int.ediv_nonneg (by omega) (Int.le_of_lt (Int.pow_pos (by decide))))]
                    simpa using this
                  generalize bk V (m - 1 - j) = bb at *
                  obtain ⟨v', w2, hrun, hown', hgrow⟩ := own_u64 hown hsz (by omega) (bb : Nat) 66
                  have H0 : Hid _ := hrun
                  have HSN : Hid _ := hsn
                  clear hrun hsn
                  go_wp2_with (at_builtin; refine wpList_append_run rfl _ _ _ _ rfl rfl rfl H0.out ?_; clear H0)
                  refine ⟨⟨j + 1, by omega, by simp, ?_, hB.grown hgrow hsz (fun i hi => (hown.lt i hi).1)⟩, by simp [intOf]; omega⟩
                  rw [HSN.out]
                  exact hown'
                · obtain rfl : j = m := by omega
                  have HOW : Hid _ := hown
                  clear hown
                  go_wp2
                  exact ⟨⟨k + 1, false, by omega, by simp, rfl, HOK.out, HFI.out _ _ HOW.out, hB⟩, by simp [intOf]; omega⟩
          · have hT1 : 65536 < total rs (k + 1) := by rw [HTT.out]; have := HTR.out rfl; omega
            have HT1 : Hid _ := hT1
            clear hT1 HF HTR HAV HCB HTT
            go_wp2_with fail
            refine Calls.mono (HFC.out _) ?_
            rintro e w1 ⟨rfl, rfl⟩
            go_wp2
            go_loopw [5, 8] (fun x i wr' => x = .slice av l0.length cv ∧ i = .int .i64 0 ∧ wr' = w1) (fun _ _ _ => 0)
            case atStart => exact ⟨rfl, rfl, rfl⟩
            case round =>
              obtain ⟨rfl, rfl, rfl⟩ := hrel
              go_wp2
              all_goals exact ⟨⟨k + 1, true, by omega, by simp, rfl, HOK.out, HMY.out _ rfl HT1.out, hB⟩, by simp [intOf]; omega⟩
        · have e : runE m V = 1 := by unfold runE; rw [if_neg hN, Int.toNat_natCast, hw]; rfl
          have hcat := HBD.out (by rw [e]; decide)
          rw [e] at hcat
          rw [hw] at hfc
          have HCA : Hid (CatIs rs [] 1) := hcat
          have HFC : Hid _ := hfc
          clear hcat e hfc hw
          go_wp2_with fail
          refine Calls.mono (HFC.out _) ?_
          rintro e w1 ⟨rfl, rfl⟩
          go_wp2
          go_ret2
          exact ⟨_, [], 1, rfl, nil_bytes _ _, hB, HCA.out⟩
    · obtain rfl : k = rs.length := by omega
      cases mb
      · obtain ⟨hn, rfl⟩ := hfalse rfl
        rw [catBits_length] at hn0
        have hbr := bytes_ref _ (catBits rs rs.length) wr (own_numsAt hown) (by rw [catBits_length]; omega)
        rw [cat_pack, catBits_length] at hbr
        have hT : total rs rs.length ≤ 65536 := hn0
        have HB3 : Hid _ := hbr
        have HALL : Hid _ := hall
        rw [catBits_length]
        clear hbr hall hav hfalse htrue hst hn
        go_wp2_with fail
        refine Calls.mono HB3.out ?_
        rintro e w4 ⟨r4, rfl, ho4, hB4⟩
        go_wp2
        go_ret2
        exact ⟨_, _, 0, rfl, ho4.bytes, hB.trans (hB4.mono hB.size), .inr (.inr ⟨HALL.out, hT, rfl, rfl⟩)⟩
      · have hT := htrue rfl
        have HALL : Hid _ := hall
        clear hall hav hfalse htrue hst
        go_wp2
        go_ret2
        exact ⟨_, [], 3, rfl, nil_bytes _ _, hB, .inr (.inl ⟨HALL.out, hT, rfl, rfl⟩)⟩

set_option maxHeartbeats 4000000 in
theorem fieldCats_walk (a : Option Addr) (len cap : Nat) (w : World) (h : IsRuns w a len cap) :
    Calls Try.prog 5 #[.slice a len cap] w fun e w' => e = .returned (.bool true) ∧ Below w.heap.size w w' := by
  obtain ⟨p1, p2, p3, hrun⟩ := h
  unfold maxLen at p3
  by_cases hbig : 1200 < len
  · obtain ⟨rs, hl, hrs⟩ := hrun 1200 (by omega)
    have hC := fun W (hW : Below w.heap.size w W) => cat_calls _ rs W (hrs.later hW) (by omega)
    have hD := fun W (hW : Below w.heap.size w W) => Rcat_calls _ rs W (hrs.later hW) (by omega)
    have HC : Hid _ := hC
    have HD : Hid _ := hD
    cases a with
    | none => have := p1 rfl; omega
    | some x =>
      clear hC hD hrs hl p1 hrun
      go_enter Try.func5, Try.ntmps5
      go_wp2_with fail
      refine Calls.mono (HC.out _ (Below.refl _ _)) ?_
      rintro e w1 ⟨r1, b1, e1, rfl, hr1, hB1, h1⟩
      go_wp2_with fail
      refine Calls.mono (HD.out _ hB1) ?_
      rintro e w2 ⟨r2, b2, e2, rfl, hr2, hB2, h2⟩
      obtain ⟨rfl, rfl⟩ := h1.uniq h2
      have hB12 := hB1.trans (hB2.mono hB1.size)
      have t1 := (hr1.later hB2).text
      have t2 := hr2.text
      clear hr1 hr2 h1 h2 HC HD
      generalize strOfNums b1 = s at *
      go_wp2_with fail
      refine (alive_calls _).mono ?_
      rintro e w5 ⟨rfl, hB5⟩
      go_wp2
      go_ret
      exact ⟨rfl, hB12.trans (hB5.mono hB12.size)⟩
  · obtain ⟨rs, hl, hrs⟩ := hrun len (Nat.le_refl _)
    have hC := fun W (hW : Below w.heap.size w W) => cat_calls _ rs W (hrs.later hW) (by omega)
    have hD := fun W (hW : Below w.heap.size w W) => Rcat_calls _ rs W (hrs.later hW) (by omega)
    have HC : Hid _ := hC
    have HD : Hid _ := hD
    clear hC hD hrs hl p1 hrun
    go_enter Try.func5, Try.ntmps5
    go_wp2_with fail
    refine Calls.mono (HC.out _ (Below.refl _ _)) ?_
    rintro e w1 ⟨r1, b1, e1, rfl, hr1, hB1, h1⟩
    go_wp2_with fail
    refine Calls.mono (HD.out _ hB1) ?_
    rintro e w2 ⟨r2, b2, e2, rfl, hr2, hB2, h2⟩
    obtain ⟨rfl, rfl⟩ := h1.uniq h2
    have hB12 := hB1.trans (hB2.mono hB1.size)
    have t1 := (hr1.later hB2).text
    have t2 := hr2.text
    clear hr1 hr2 h1 h2 HC HD
    generalize strOfNums b1 = s at *
    go_wp2_with fail
    refine (alive_calls _).mono ?_
    rintro e w5 ⟨rfl, hB5⟩
    go_wp2
    go_ret
    exact ⟨rfl, hB12.trans (hB5.mono hB12.size)⟩

theorem fieldCats_open {H : Type} {enc : TypeId × Value → H} {W : World} {base : Nat} (v0 : Value) (o0 : Value.okWide Try.prog W .any base 44 v0) {d : DataW H} {p : List MemPlace} (h0 : DataW.Trod enc Try.prog W 0 (fun _ => true) true 44 v0 d p) :
    Calls Try.prog 5 #[v0] W fun e w' => e = .returned (.bool true) ∧ Below W.heap.size W w' := by
  obtain ⟨a, len, cap, rfl, h⟩ := open_runs o0 h0
  exact fieldCats_walk a len cap W h

end Go.Proofs.Ytcncjclolpfddaa
