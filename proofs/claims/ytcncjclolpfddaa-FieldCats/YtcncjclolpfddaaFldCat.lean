/-
  Runs of bits in memory, and the contracts of check and of the program's Cat.
-/
import Derived.Test.YtcncjclolpfddaaFldCpure
namespace Go.Proofs.Ytcncjclolpfddaa
set_option linter.unusedVariables false
set_option linter.unusedSimpArgs false
open Go Go.RowKit
attribute [local go_sem] Oper.semAt_some

/-- The slice value v holds the runs rs, in a block below n₀. -/
structure RunsAt (n₀ : Nat) (W : World) (v : Value) (rs : List (Int × Nat)) : Prop where
  bnd : ∀ j, (-9223372036854775808 ≤ rN rs j ∧ rN rs j ≤ 9223372036854775807) ∧ rV rs j < 18446744073709551616
  val : ∃ a cap, v = .slice a rs.length cap ∧ (rs.length = 0 ∨ ∃ b off, a = some ⟨b, off, none⟩ ∧ b < n₀ ∧ ∀ j, j < rs.length → W.cell? ⟨b, off + j * 2, none⟩ = some (.int .i64 (rN rs j)) ∧ W.cell? ⟨b, off + j * 2 + 1, none⟩ = some (.int .u64 (rV rs j : Nat)))

theorem RunsAt.later {A B : World} {v : Value} {rs : List (Int × Nat)} (h : RunsAt A.heap.size A v rs) (hb : Below A.heap.size A B) : RunsAt B.heap.size B v rs := by
  obtain ⟨h1, a, cap, hv, hz⟩ := h
  refine ⟨h1, a, cap, hv, hz.imp id ?_⟩
  rintro ⟨b, off, rfl, hlt, hc⟩
  exact ⟨b, off, rfl, by have := hb.size; omega, fun j hj => ⟨(hb.cell (p := ⟨b, off + j * 2, none⟩) hlt).trans (hc j hj).1, (hb.cell (p := ⟨b, off + j * 2 + 1, none⟩) hlt).trans (hc j hj).2⟩⟩

set_option maxHeartbeats 1000000 in
theorem check_calls (n : Int) (v : Nat) (w : World) (hn : -9223372036854775808 ≤ n ∧ n ≤ 9223372036854775807) (hv : v < 18446744073709551616) :
    Calls Try.prog 39 #[.agg #[.int .i64 n, .int .u64 v]] w fun e w' => e = .returned (.int .i64 (runE n v)) ∧ Below w.heap.size w w' := by
  by_cases c : n < 0 ∨ 64 < n
  · have e : runE n v = 30 := by unfold runE; rw [if_pos c]
    rw [e]
    rcases c with c | c
    all_goals
      go_enter Try.func39, Try.ntmps39
      go_wp2
      go_ret
      exact ⟨rfl, (Below.refl _ w).alloc (Nat.le_refl _) _⟩
  · obtain ⟨m, rfl⟩ := Int.eq_ofNat_of_zero_le (by omega : 0 ≤ n)
    have hm : m ≤ 64 := by omega
    have hwc := fun w => wide_calls v m w hv hm
    have hB := (Below.refl w.heap.size w).alloc (Nat.le_refl _) (.cells #[.int .i64 m, .int .u64 v] 60)
    cases hw : wideB v m
    · have e : runE m v = 0 := by unfold runE; rw [if_neg c, Int.toNat_natCast, hw]; rfl
      rw [e]
      rw [hw] at hwc
      have HW : Hid _ := hwc
      clear hwc hw e
      go_enter Try.func39, Try.ntmps39
      go_wp2_with fail
      refine Calls.mono (HW.out _) ?_
      rintro e w1 ⟨rfl, rfl⟩
      go_wp2
      go_ret
      exact ⟨rfl, hB⟩
    · have e : runE m v = 1 := by unfold runE; rw [if_neg c, Int.toNat_natCast, hw]; rfl
      rw [e]
      rw [hw] at hwc
      have HW : Hid _ := hwc
      clear hwc hw e
      go_enter Try.func39, Try.ntmps39
      go_wp2_with fail
      refine Calls.mono (HW.out _) ?_
      rintro e w1 ⟨rfl, rfl⟩
      go_wp2
      go_ret
      exact ⟨rfl, hB⟩

def CatPost (rs : List (Int × Nat)) (w : World) (e : Ending) (w' : World) : Prop :=
  ∃ r bs er, e = .returned (.tuple #[r, .int .i64 er]) ∧ BytesAt w'.heap.size w' r bs ∧ Below w.heap.size w w' ∧ CatIs rs bs er

set_option maxHeartbeats 4000000 in
theorem cat_calls (v : Value) (rs : List (Int × Nat)) (w : World) (h : RunsAt w.heap.size w v rs) (hl : rs.length ≤ 1200) :
    Calls Try.prog 21 #[v] w fun e w' => CatPost rs w e w' := by
  obtain ⟨hbnd, a, cap, rfl, hz⟩ := h
  go_enter Try.func21, Try.ntmps21
  go_wp2
  go_loopw [4, 14] (fun x i wr => ∃ k : Nat, k ≤ rs.length ∧ i = .int .i64 k ∧ allOk rs k ∧ x = .int .i64 (total rs k : Nat) ∧ Below w.heap.size w wr) (fun _ i _ => rs.length - (intOf i).toNat)
  case atStart => exact ⟨0, Nat.zero_le _, rfl, fun j hj => absurd hj (by omega), rfl, Below.refl _ _⟩
  case round =>
    obtain ⟨k, hk, rfl, hall, rfl, hB⟩ := hrel
    have htl := total_le hall
    by_cases hlt : k < rs.length
    · have hz' := hz
      rcases hz' with hz' | ⟨b, off, rfl, hbn, hc⟩
      · omega
      have c1 := (hB.cell (p := ⟨b, off + k * 2, none⟩) hbn).trans (hc k hlt).1
      have c2 := (hB.cell (p := ⟨b, off + k * 2 + 1, none⟩) hbn).trans (hc k hlt).2
      have hbk := hbnd k
      have hck := fun w => check_calls (rN rs k) (rV rs k) w hbk.1 hbk.2
      have HC : Hid _ := hck
      have hsucc := allOk_succ (k := k) hall
      have htot : total rs (k + 1) = total rs k + (rN rs k).toNat := rfl
      have hok := @runE_ok (rN rs k) (rV rs k)
      have hbad : runE (rN rs k) (rV rs k) ≠ 0 → CatIs rs [] (runE (rN rs k) (rV rs k)) := fun hne => .inl ⟨k, hlt, hall, hne, rfl, rfl⟩
      generalize hT1 : total rs (k + 1) = T1 at *
      generalize hT : total rs k = T at *
      generalize rN rs k = N at *
      generalize rV rs k = V at *
      have HS : Hid _ := hsucc
      have HB : Hid _ := hbad
      have HO : Hid _ := hok
      have HT : Hid _ := hT1
      clear hck hsucc hbad hok hT1 hT hc hz hbnd
      have hA := hB.alloc hB.size (.cells #[.int .i64 N, .int .u64 V] 60)
      have hnew : (wr.alloc (.cells #[.int .i64 N, .int .u64 V] 60)).cell? ⟨wr.heap.size, 0, none⟩ = some (.int .i64 N) := by
        rw [World.cell?_alloc_new]; rfl
      have hsz : wr.heap.size < (wr.alloc (.cells #[.int .i64 N, .int .u64 V] 60)).heap.size := by simp
      go_wp2_with fail
      refine Calls.mono (HC.out _) ?_
      rintro e w1 ⟨rfl, hB1⟩
      have cN := (hB1.cell (p := ⟨wr.heap.size, 0, none⟩) hsz).trans hnew
      have hBB := hA.trans (hB1.mono hA.size)
      clear hA hnew hsz hB1 HC c1 c2
      by_cases hr : runE N V = 0
      · obtain ⟨n0, n64, _, _⟩ := HO.out hr
        obtain ⟨m, rfl⟩ := Int.eq_ofNat_of_zero_le n0
        rw [hr]
        have htot2 : ((T1 : Nat) : Int) = (T : Int) + m := by omega
        have HT2 : Hid _ := htot2
        have HR : Hid _ := hr
        clear htot htot2 hr
        go_wp2
        refine ⟨⟨k + 1, by omega, by simp, HS.out HR.out, ?_, hBB⟩, by simp [intOf]; omega⟩
        rw [HT.out, HT2.out]
      · have hq : (runE N V != 0) = true := by simpa using hr
        have HRR : Hid _ := hr
        clear hr
        go_wp2
        go_ret2
        exact ⟨_, [], _, rfl, nil_bytes _ _, hBB, HB.out HRR.out⟩
    · obtain rfl : k = rs.length := by omega
      have hmany : 65536 < total rs rs.length → CatIs rs [] 3 := fun hm => .inr (.inl ⟨hall, hm, rfl, rfl⟩)
      have hgood : total rs rs.length ≤ 65536 → CatIs rs (catRow rs (total rs rs.length) rs.length) 0 := fun hm => .inr (.inr ⟨hall, hm, rfl, rfl⟩)
      have hmono := fun k hk => total_mono rs k rs.length hk
      obtain ⟨T, hT⟩ : ∃ T, T = total rs rs.length := ⟨_, rfl⟩
      rw [← hT] at hmany hgood htl hmono
      rw [← hT]
      have HM : Hid _ := hmany
      have HG : Hid _ := hgood
      have HMO : Hid _ := hmono
      have HTT : Hid _ := hT
      clear hmany hgood hmono hT
      by_cases hbig : 65536 < T
      · go_wp2
        go_ret2
        exact ⟨_, [], 3, rfl, nil_bytes _ _, hB, HM.out hbig⟩
      · obtain ⟨i, hi, hz0, hs, hby⟩ := info_parts info_u8
        obtain ⟨f, hfd⟩ : ∃ f, f = (T + 7) / 8 := ⟨_, rfl⟩
        have hroom := fun w => room_calls T w (by omega)
        simp only [← hfd] at hroom
        have HR : Hid _ := hroom
        have hf2 : f ≤ 10000 := by omega
        have hf3 : T ≤ 8 * f := by omega
        have HFD : Hid _ := hfd
        clear hroom hfd
        go_wp2_with (first
          | (go_at_call 37; refine Calls.mono (HR.out _) ?_; rintro e w2 ⟨rfl, rfl⟩)
          | (at_make; refine wpList_make_full _ rfl _ _ _ rfl _ 5 i (.int .u8 0) 1 Try.underlying22 hi hz0 hs .i64 .i64 _ _ f rfl rfl rfl rfl (by rw [hby]; omega) (by unfold maxLen; omega) (Nat.le_refl _) ?_; intro X hown hgr; have hG := own_made hown; have hB1 := (Below.refl _ _).grown hgr (Nat.le_refl _) (fun k hk => by cases hk); clear hown hgr))
        have hB2 := hB.trans (hB1.mono hB.size)
        have hsz0 := hB.size
        clear hB hB1
        generalize hgg : w2.heap.size = g at *
        go_loopw [9, 35] (fun x i wr => ∃ k : Nat, k ≤ rs.length ∧ i = .int .i64 k ∧ x = .int .i64 (total rs k : Nat) ∧ OwnG g wr g (catRow rs T k) ∧ Below w.heap.size w wr) (fun _ i _ => rs.length - (intOf i).toNat)
        case atStart =>
          refine ⟨0, Nat.zero_le _, rfl, rfl, ?_, hB2⟩
          have : catRow rs T 0 = List.replicate f 0 := by rw [HFD.out]; rfl
          rw [this]
          exact hG
        case round =>
          clear hG hB2
          obtain ⟨k, hk, rfl, rfl, hG, hB⟩ := hrel
          by_cases hlt2 : k < rs.length
          · have hz' := hz
            rcases hz' with hz' | ⟨b, off, rfl, hbn, hc⟩
            · omega
            have c1 := (hB.cell (p := ⟨b, off + k * 2, none⟩) hbn).trans (hc k hlt2).1
            have c2 := (hB.cell (p := ⟨b, off + k * 2 + 1, none⟩) hbn).trans (hc k hlt2).2
            have hbk := hbnd k
            obtain ⟨n0, n64, _, _⟩ := runE_ok (hall k hlt2)
            have htot : total rs (k + 1) = total rs k + (rN rs k).toNat := rfl
            have hmo := HMO.out (k + 1) (by omega)
            have hlen : (catRow rs T k).length = f := by rw [HFD.out]; simp
            have hfit := catRow_fit rs T k
            have hrow : catRow rs T (k + 1) = writeL (catRow rs T k) (total rs k) (rN rs k).toNat (rV rs k) (rN rs k).toNat := rfl
            have hgl := hG.block
            generalize rV rs k = V at *
            obtain ⟨m, hm⟩ := Int.eq_ofNat_of_zero_le n0
            rw [hm] at c1 htot hrow n64
            rw [Int.toNat_natCast] at htot hrow
            clear hm n0
            have hA := hB.alloc hB.size (.cells #[.int .i64 m, .int .u64 V] 60)
            have hGA := hG.keep ((Below.refl _ wr).alloc (Nat.le_refl _) (.cells #[.int .i64 m, .int .u64 V] 60))
            have hnew : (wr.alloc (.cells #[.int .i64 m, .int .u64 V] 60)).cell? ⟨wr.heap.size, 0, none⟩ = some (.int .i64 m) := by
              rw [World.cell?_alloc_new]; rfl
            have hw := write_only g f g (catRow rs T k) (total rs k) m V _ hfit (by omega) hGA (by omega) (by omega) hbk.2
            rw [← hrow, hlen] at hw
            generalize hT1 : total rs (k + 1) = T1 at *
            generalize hT0 : total rs k = T0 at *
            generalize hR1 : catRow rs T (k + 1) = R1 at *
            have HW : Hid _ := hw
            have HT1 : Hid _ := hT1
            have HR1 : Hid _ := hR1
            have htot2 : ((T1 : Nat) : Int) = (T0 : Int) + m := by omega
            have HT2 : Hid _ := htot2
            have hb6 : T0 + m ≤ 65536 := by omega
            clear hw hT1 hT0 hR1 hrow htot htot2 hfit hc hz hall hbnd hGA
            go_wp2_with fail
            refine Calls.mono HW.out ?_
            rintro e w3 ⟨rfl, hG3, hB3, hs3, hoth⟩
            have cN := (World.cell?_of_block (a := ⟨wr.heap.size, 0, none⟩) (hoth wr.heap.size (by omega))).trans hnew
            have hBB := hA.trans (hB3.mono hsz0)
            clear hoth HW hnew hA c1 c2
            go_wp2
            refine ⟨⟨k + 1, by omega, by simp, ?_, ?_, hBB⟩, by simp [intOf]; omega⟩
            · rw [HT1.out, HT2.out]
            · rw [HR1.out]; exact hG3
          · obtain rfl : k = rs.length := by omega
            have hbt := (hG.own (cap := f) (catRow_fit rs T rs.length) (by rw [catRow_length]; omega)).bytes
            rw [catRow_length, ← HFD.out] at hbt
            have HBT : Hid _ := hbt
            clear hbt
            have hgd := HG.out (by omega)
            go_wp2
            go_ret2
            exact ⟨_, _, 0, rfl, HBT.out, hB, hgd⟩

end Go.Proofs.Ytcncjclolpfddaa
