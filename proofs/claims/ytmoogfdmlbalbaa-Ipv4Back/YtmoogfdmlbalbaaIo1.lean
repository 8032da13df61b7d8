/-
  Options in memory and as bytes; Pack of package ipv4.
-/
import Derived.Test.YtmoogfdmlbalbaaIv3
import Derived.Test.YtmoogfdmlbalbaaIr11a
namespace Go.Proofs.Ytmoogfdmlbalbaa
open Go Go.RowKit
set_option linter.unusedVariables false
set_option linter.unusedSimpArgs false

abbrev Opts := List (Int × List Int)
def oK (os : Opts) (j : Nat) : Int := (os[j]?.getD (0, [])).1
def oD (os : Opts) (j : Nat) : List Int := (os[j]?.getD (0, [])).2
def oTot (os : Opts) : Nat → Nat
  | 0 => 0
  | k + 1 => oTot os k + (2 + (oD os k).length)
def oGood (os : Opts) (j : Nat) : Prop := 2 ≤ oK os j ∧ (oD os j).length ≤ 38
def oAll (os : Opts) (k : Nat) : Prop := ∀ j, j < k → oGood os j
def oFlat (os : Opts) : Nat → List Int
  | 0 => []
  | k + 1 => oFlat os k ++ (oK os k :: ((2 + (oD os k).length : Nat) : Int) :: oD os k)
theorem oFlat_length (os : Opts) : ∀ k, (oFlat os k).length = oTot os k
  | 0 => rfl
  | k + 1 => by simp [oFlat, oTot, oFlat_length os k]; omega
theorem oAll_succ {os : Opts} {k : Nat} (h : oAll os k) (hk : oGood os k) : oAll os (k + 1) := fun j hj => by
  by_cases e : j = k
  · subst e; exact hk
  · exact h j (by omega)
theorem oTot_le {os : Opts} : ∀ {k : Nat}, oAll os k → oTot os k ≤ 40 * k
  | 0, _ => by simp [oTot]
  | k + 1, h => by
    have := oTot_le (os := os) (k := k) (fun j hj => h j (by omega))
    have := (h k (by omega)).2
    simp only [oTot]
    omega
theorem oTot_mono (os : Opts) : ∀ k d, oTot os k ≤ oTot os (k + d)
  | k, 0 => Nat.le_refl _
  | k, d + 1 => Nat.le_trans (oTot_mono os k d) (Nat.le_add_right (oTot os (k + d)) _)
def up4 (n : Nat) : Nat := (n + 3) / 4 * 4
/-- The row of which the first k options are written. -/
def packR (os : Opts) (k : Nat) : List Int := oFlat os k ++ List.replicate (up4 (oTot os os.length) - oTot os k) 0
theorem packR_length {os : Opts} {k : Nat} (hk : k ≤ os.length) : (packR os k).length = up4 (oTot os os.length) := by
  have h1 := oTot_mono os k (os.length - k)
  rw [show k + (os.length - k) = os.length by omega] at h1
  have h2 : oTot os os.length ≤ up4 (oTot os os.length) := by unfold up4; omega
  simp [packR, oFlat_length]
  omega
theorem packR_step {os : Opts} {k : Nat} (hk : k < os.length) :
    let r := ((packR os k).set (oTot os k) (oK os k)).set (oTot os k + 1) (((2 + (oD os k).length : Nat) : Int))
    r.take (oTot os k + 2) ++ oD os k ++ r.drop (oTot os k + 2 + (oD os k).length) = packR os (k + 1) := by
  intro r
  have h1 := oTot_mono os (k + 1) (os.length - (k + 1))
  rw [show k + 1 + (os.length - (k + 1)) = os.length by omega] at h1
  have h2 : oTot os os.length ≤ up4 (oTot os os.length) := by unfold up4; omega
  have e0 : oTot os (k + 1) = oTot os k + (2 + (oD os k).length) := rfl
  have hl := oFlat_length os k
  obtain ⟨m, hm⟩ : ∃ m, up4 (oTot os os.length) - oTot os k = m + 2 + (oD os k).length := ⟨up4 (oTot os os.length) - oTot os k - 2 - (oD os k).length, by omega⟩
  have er : r = oFlat os k ++ (oK os k :: ((2 + (oD os k).length : Nat) : Int) :: List.replicate (m + (oD os k).length) 0) := by
    show ((packR os k).set (oTot os k) (oK os k)).set (oTot os k + 1) _ = _
    unfold packR
    rw [hm, show m + 2 + (oD os k).length = (m + (oD os k).length) + 1 + 1 by omega, List.replicate_succ, List.replicate_succ, ← hl, List.set_append_right _ _ (Nat.le_refl _), List.set_append_right _ _ (by omega)]
    simp
  rw [er]
  have e3 : packR os (k + 1) = oFlat os k ++ (oK os k :: ((2 + (oD os k).length : Nat) : Int) :: oD os k) ++ List.replicate m 0 := by
    unfold packR
    rw [show up4 (oTot os os.length) - oTot os (k + 1) = m by omega]
    rfl
  rw [e3, ← hl]
  generalize oFlat os k = F
  generalize oD os k = D
  generalize oK os k = K
  generalize ((2 + D.length : Nat) : Int) = L
  have t1 : (F ++ (K :: L :: List.replicate (m + D.length) 0)).take (F.length + 2) = F ++ [K, L] := by
    rw [List.take_append, List.take_of_length_le (by omega)]
    simp
  have t2 : (F ++ (K :: L :: List.replicate (m + D.length) 0)).drop (F.length + 2 + D.length) = List.replicate m 0 := by
    rw [List.drop_append, List.drop_of_length_le (by omega), show F.length + 2 + D.length - F.length = D.length + 1 + 1 by omega, List.drop_succ_cons, List.drop_succ_cons, List.drop_replicate]
    simp
  rw [t1, t2]
  simp

theorem oFlat_fit {os : Opts} (hk : ∀ j, 0 ≤ oK os j ∧ oK os j < 256) : ∀ {k : Nat}, oAll os k → (∀ j, j < k → Fit (oD os j)) → Fit (oFlat os k)
  | 0, _, _ => fun z hz => by simp [oFlat] at hz
  | k + 1, ha, hd => fun z hz => by
    rw [oFlat, List.mem_append] at hz
    rcases hz with hz | hz
    · exact oFlat_fit hk (fun j hj => ha j (by omega)) (fun j hj => hd j (by omega)) z hz
    · have h38 := (ha k (by omega)).2
      simp only [List.mem_cons] at hz
      rcases hz with rfl | rfl | hz
      · exact hk k
      · omega
      · exact hd k (by omega) z hz
theorem packR_fit {os : Opts} (hk : ∀ j, 0 ≤ oK os j ∧ oK os j < 256) {k : Nat} (ha : oAll os k) (hd : ∀ j, j < k → Fit (oD os j)) : Fit (packR os k) := fun z hz => by
  rw [packR, List.mem_append] at hz
  rcases hz with hz | hz
  · exact oFlat_fit hk ha hd z hz
  · have := List.eq_of_mem_replicate hz
    omega

/-- Options that came in or were made. -/
structure OptsAt (n₀ : Nat) (W : World) (v : Value) (os : Opts) : Prop where
  fit : ∀ j, 0 ≤ oK os j ∧ oK os j < 256
  len : os.length ≤ 140737488351232
  val : ∃ a cap, v = .slice a os.length cap ∧ (os.length = 0 ∨ ∃ b off, a = some ⟨b, off, none⟩ ∧ b < n₀ ∧ ∀ j, j < os.length → W.cell? ⟨b, off + j * 2, none⟩ = some (.int .u8 (oK os j)) ∧ ∃ s, W.cell? ⟨b, off + j * 2 + 1, none⟩ = some s ∧ BytesAt n₀ W s (oD os j))
theorem OptsAt.later {A B : World} {v : Value} {os : Opts} (h : OptsAt A.heap.size A v os) (hb : Below A.heap.size A B) : OptsAt B.heap.size B v os := by
  obtain ⟨h1, hl, a, cap, hv, hz⟩ := h
  refine ⟨h1, hl, a, cap, hv, hz.imp id ?_⟩
  rintro ⟨b, off, rfl, hlt, hc⟩
  refine ⟨b, off, rfl, by have := hb.size; omega, fun j hj => ?_⟩
  obtain ⟨c0, s, c1, hs⟩ := hc j hj
  exact ⟨(hb.cell (p := ⟨b, off + j * 2, none⟩) hlt).trans c0, s, (hb.cell (p := ⟨b, off + j * 2 + 1, none⟩) hlt).trans c1, hs.later hb⟩

/-- What Pack answers. -/
def PackIs (os : Opts) (bs : List Int) (er : Int) : Prop :=
  (∃ k, k < os.length ∧ oAll os k ∧ ¬ oGood os k ∧ bs = [] ∧ er = 47) ∨ (oAll os os.length ∧ 40 < oTot os os.length ∧ bs = [] ∧ er = 2) ∨ (oAll os os.length ∧ oTot os os.length ≤ 40 ∧ bs = packR os os.length ∧ er = 0)
theorem PackIs.unique {os : Opts} {bs bs' : List Int} {er er' : Int} (h : PackIs os bs er) (h' : PackIs os bs' er') : bs = bs' ∧ er = er' := by
  rcases h with ⟨k, hk, ha, hn, rfl, rfl⟩ | ⟨ha, ht, rfl, rfl⟩ | ⟨ha, ht, rfl, rfl⟩ <;> rcases h' with ⟨k', hk', ha', hn', rfl, rfl⟩ | ⟨ha', ht', rfl, rfl⟩ | ⟨ha', ht', rfl, rfl⟩
  · exact ⟨rfl, rfl⟩
  · exact absurd (ha' k hk) hn
  · exact absurd (ha' k hk) hn
  · exact absurd (ha k' hk') hn'
  · exact ⟨rfl, rfl⟩
  · omega
  · exact absurd (ha k' hk') hn'
  · omega
  · exact ⟨rfl, rfl⟩
def PackPost (os : Opts) (w : World) (e : Ending) (w' : World) : Prop :=
  ∃ r bs er, e = .returned (.tuple #[r, .int .i64 er]) ∧ RowC w' r bs ∧ Below w.heap.size w w' ∧ PackIs os bs er
theorem RowC.nil (w : World) : RowC w (.slice none 0 0) [] := ⟨fun z hz => by simp at hz, by simp, _, _, rfl, Nat.le_refl _, .inl rfl⟩

set_option maxHeartbeats 600000 in
set_option maxRecDepth 100000 in
theorem Pack_calls (v : Value) (os : Opts) (w : World) (h : OptsAt w.heap.size w v os) :
    Calls Try.prog 28 #[v] w fun e w' => PackPost os w e w' := by
  obtain ⟨hfit, hlen, a, cap, rfl, hz⟩ := h
  go_enter Try.func28, Try.ntmps28
  go_wp2
  go_loopw [4, 13] (fun x i wr => ∃ k : Nat, k ≤ os.length ∧ i = .int .i64 k ∧ oAll os k ∧ x = .int .i64 (oTot os k : Nat) ∧ Below w.heap.size w wr) (fun _ i _ => os.length - (intOf i).toNat)
  case atStart => exact ⟨0, Nat.zero_le _, rfl, fun j hj => absurd hj (by omega), rfl, Below.refl _ _⟩
  case round =>
    obtain ⟨k, hk, rfl, hall, rfl, hB⟩ := hrel
    have htl := oTot_le hall
    by_cases hlt : k < os.length
    · have hz' := hz
      rcases hz' with hz' | ⟨b, off, rfl, hbn, hc⟩
      · omega
      obtain ⟨c0, s, c1, hs⟩ := hc k hlt
      obtain ⟨_, hdl, sa, sc, rfl, _⟩ := hs
      have d0 := (hB.cell (p := ⟨b, off + k * 2, none⟩) hbn).trans c0
      have d1 := (hB.cell (p := ⟨b, off + k * 2 + 1, none⟩) hbn).trans c1
      have hbad : ¬ oGood os k → PackIs os [] 47 := fun hn => .inl ⟨k, hlt, hall, hn, rfl, rfl⟩
      have hgo : oGood os k → oAll os (k + 1) := fun hg => oAll_succ hall hg
      have hT1 : (((oTot os (k + 1) : Nat) : Int)) = (oTot os k : Int) + (2 + ((oD os k).length : Int)) := by simp only [oTot]; omega
      have hfk := hfit k
      have hgd : oGood os k ↔ 2 ≤ oK os k ∧ (oD os k).length ≤ 38 := Iff.rfl
      generalize oGood os k = G at *
      generalize hT1e : oTot os (k + 1) = T1 at *
      have HT1E : Hid _ := hT1e
      clear hT1e
      generalize oTot os k = T at *
      generalize oK os k = K at *
      generalize (oD os k).length = D at *
      have HT : Hid _ := hT1
      have HBAD : Hid _ := hbad
      have HGO : Hid _ := hgo
      have HGD : Hid _ := hgd
      clear hT1 hbad hgo hgd hc hz c0 c1
      have hA := hB.alloc hB.size (.cells #[.int .u8 K, .slice sa D sc] 76)
      have w1 : IntKind.i64.wrap (2 + (D : Int)) = 2 + (D : Int) := wrapi64 _ (by omega)
      have w2 : IntKind.i64.wrap ((T : Int) + (2 + (D : Int))) = (T : Int) + (2 + (D : Int)) := wrapi64 _ (by omega)
      by_cases h0 : K = 0
      · subst h0
        go_wp2
        go_ret2
        exact ⟨_, [], _, rfl, RowC.nil _, hA, HBAD.out (fun hg => by have := (HGD.out.1 hg).1; omega)⟩
      · by_cases h1 : K = 1
        · subst h1
          go_wp2
          go_ret2
          exact ⟨_, [], _, rfl, RowC.nil _, hA, HBAD.out (fun hg => by have := (HGD.out.1 hg).1; omega)⟩
        · have q0 : (K == 0) = false := by simp [h0]
          have q1 : (K == 1) = false := by simp [h1]
          by_cases h2 : 38 < D
          · have q2 : decide ((38 : Int) < (D : Int)) = true := by simp; omega
            go_wp2
            go_ret2
            exact ⟨_, [], _, rfl, RowC.nil _, hA, HBAD.out (fun hg => by have := (HGD.out.1 hg).2; omega)⟩
          · have q2 : decide ((38 : Int) < (D : Int)) = false := by simp; omega
            have hG : G := HGD.out.2 ⟨by omega, by omega⟩
            have HG : Hid _ := hG
            clear hG h0 h1 h2
            go_wp2
            exact ⟨⟨k + 1, by omega, by simp, HGO.out HG.out, by rw [HT1E.out, HT.out], hA⟩, by simp [intOf]; omega⟩
    · obtain rfl : k = os.length := by omega
      have hmany : 40 < oTot os os.length → PackIs os [] 2 := fun hm => .inr (.inl ⟨hall, hm, rfl, rfl⟩)
      have hgood : oTot os os.length ≤ 40 → PackIs os (packR os os.length) 0 := fun hm => .inr (.inr ⟨hall, hm, rfl, rfl⟩)
      have HMANY : Hid _ := hmany
      have HGOOD : Hid _ := hgood
      clear hmany hgood
      by_cases h40 : 40 < oTot os os.length
      · have q : decide ((40 : Int) < ((oTot os os.length : Nat) : Int)) = true := by simp; omega
        have HB : Hid _ := hB
        have HH : Hid (PackIs os [] 2) := HMANY.out h40
        clear hB h40 htl hz hall
        generalize oTot os os.length = T at *
        go_wp2
        go_ret2
        exact ⟨_, [], _, rfl, RowC.nil _, HB.out, HH.out⟩
      · have q : decide ((40 : Int) < ((oTot os os.length : Nat) : Int)) = false := by simp; omega
        obtain ⟨i, hi, hz0, hs, hby⟩ := info_parts info_u8
        have hcast : (((oTot os os.length : Nat) : Int) + 4 - 1) / 4 * 4 = ((up4 (oTot os os.length) : Nat) : Int) := by unfold up4; omega
        have hu : up4 (oTot os os.length) ≤ 40 := by unfold up4; omega
        have HGD0 : Hid (PackIs os (packR os os.length) 0) := HGOOD.out (by omega)
        have HPR : Hid (∀ k, k ≤ os.length → (packR os k).length = up4 (oTot os os.length)) := fun k hk => packR_length hk
        have HP0 : Hid (packR os 0 = List.replicate (up4 (oTot os os.length)) 0) := by show [] ++ _ = _; simp [oTot]
        clear HGOOD HMANY h40
        generalize hT : oTot os os.length = T at *
        generalize hU : up4 T = U at *
        have HT : Hid _ := hT
        have HU : Hid _ := hU
        have HB : Hid _ := hB
        clear hT hU hB
        go_wp2_with (at_make; refine wpList_make_full _ rfl _ _ _ rfl wr.heap.size 5 i (.int .u8 0) 1 Try.underlying25 hi hz0 hs .i64 .i64 _ _ U rfl rfl rfl rfl (by rw [hby]; omega) (by unfold maxLen; omega) (Nat.le_refl _) ?_; intro w4 hown hgr; have hG4 := made_own hown; have hB4 := (Below.refl _ wr).grown hgr (Nat.le_refl _) (fun k hk => by cases hk); clear hown hgr)
        have HG4 : Hid (OwnG w4 wr.heap.size (packR os 0)) := by rw [HP0.out]; exact hG4
        have hB04 := HB.out.trans (hB4.mono HB.out.size)
        have HB04 : Hid _ := hB04
        have HBW : Hid (w.heap.size ≤ wr.heap.size) := HB.out.size
        clear hG4 hB4 hB04 HP0 HB hz0 hs hi hby
        generalize wr.heap.size = g at *
        go_loopw [8, 48] (fun x i wr => ∃ k : Nat, k ≤ os.length ∧ i = .int .i64 k ∧ x = .int .i64 (oTot os k : Nat) ∧ OwnG wr g (packR os k) ∧ Below w.heap.size w wr) (fun _ i _ => os.length - (intOf i).toNat)
        case atStart => exact ⟨0, Nat.zero_le _, rfl, rfl, HG4.out, HB04.out⟩
        case round =>
          rename_i wq _
          obtain ⟨k, hk, rfl, rfl, hown, hB⟩ := hrel
          by_cases hlt : k < os.length
          · have hz' := hz
            rcases hz' with hz' | ⟨b, off, rfl, hbn, hc⟩
            · omega
            obtain ⟨c0, s, c1, hs⟩ := hc k hlt
            have hs0 := hs
            obtain ⟨_, hdl, sa, sc, rfl, _⟩ := hs
            have d0 := (hB.cell (p := ⟨b, off + k * 2, none⟩) hbn).trans c0
            have d1 := (hB.cell (p := ⟨b, off + k * 2 + 1, none⟩) hbn).trans c1
            have hstep := packR_step hlt
            have hm1 := oTot_mono os (k + 1) (os.length - (k + 1))
            rw [show k + 1 + (os.length - (k + 1)) = os.length by omega, HT.out] at hm1
            have hU2 : T ≤ U := by rw [← HU.out]; unfold up4; omega
            have hT1 : oTot os (k + 1) = oTot os k + (2 + (oD os k).length) := rfl
            have hpl := HPR.out k (by omega)
            have hgl := hown.lt
            have hA := hB.alloc hB.size (.cells #[.int .u8 (oK os k), .slice sa (oD os k).length sc] 76)
            have hBa := (Below.refl wr.heap.size wr).alloc (Nat.le_refl _) (.cells #[.int .u8 (oK os k), .slice sa (oD os k).length sc] 76)
            have hown2 := hown.kept hgl hBa
            have n0 : (wr.alloc (.cells #[.int .u8 (oK os k), .slice sa (oD os k).length sc] 76)).cell? ⟨wr.heap.size, 0, none⟩ = some (.int .u8 (oK os k)) := by rw [World.cell?_alloc_new]; rfl
            have n1 : (wr.alloc (.cells #[.int .u8 (oK os k), .slice sa (oD os k).length sc] 76)).cell? ⟨wr.heap.size, 1, none⟩ = some (.slice sa (oD os k).length sc) := by rw [World.cell?_alloc_new]; rfl
            have hkk : oAll os (k + 1) := fun j hj => hall j (by omega)
            have hD38 : (oD os k).length ≤ 38 := (hall k hlt).2
            have hfk := hfit k
            have HSTEP : Hid _ := hstep
            have HOWN : Hid _ := hown2
            have HSR : Hid (∀ W, Below w.heap.size w W → BytesAt W.heap.size W (.slice sa (oD os k).length sc) (oD os k)) := fun W hW => hs0.later hW
            have HA : Hid _ := hA
            generalize hT1e : oTot os (k + 1) = T1 at *
            have HT1E : Hid _ := hT1e
            clear hT1e hc hz c0 c1 hown2 hs0 hA hBa hstep hown hall hkk
            generalize oTot os k = Tk at *
            generalize oK os k = K at *
            generalize hDD : oD os k = DD at *
            have HDD : Hid _ := hDD
            clear hDD
            have x0 := HOWN.out.cell Tk (by omega)
            have x1 := HOWN.out.cell (Tk + 1) (by omega)
            have f0 := HOWN.out.open Tk
            have f1 := HOWN.out.open (Tk + 1)
            generalize (packR os k)[Tk]?.getD 0 = z0 at *
            generalize (packR os k)[Tk + 1]?.getD 0 = z1 at *
            have i0 : (Tk : Int) < (U : Int) := by omega
            have i1 : (Tk : Int) + 1 < (U : Int) := by omega
            have i2 : (Tk : Int) + 2 ≤ (U : Int) := by omega
            have hne : ¬ wr.heap.size = g := by omega
            have v1 : IntKind.i64.wrap (2 + (DD.length : Int)) = 2 + (DD.length : Int) := wrapi64 _ (by omega)
            have v2 : IntKind.u8.wrap (2 + (DD.length : Int)) = 2 + (DD.length : Int) := by rw [IntKind.wrap_u8']; omega
            have v3 : IntKind.i64.wrap ((Tk : Int) + 1) = (Tk : Int) + 1 := wrapi64 _ (by omega)
            have v4 : IntKind.i64.wrap ((Tk : Int) + 2) = (Tk : Int) + 2 := wrapi64 _ (by omega)
            have v5 : IntKind.i64.wrap ((Tk : Int) + (2 + (DD.length : Int))) = (Tk : Int) + (2 + (DD.length : Int)) := wrapi64 _ (by omega)
            generalize hwa : wr.alloc (.cells #[.int .u8 K, .slice sa DD.length sc] 76) = wa at *
            have HWA : Hid _ := hwa
            go_wp2_with fail
            go_region
            go_wp2_with fail
            clear f0 f1
            have hownb := (HOWN.out.set Tk (by omega) K).set (Tk + 1) (by simp; omega) (2 + (DD.length : Int))
            have hBb : Below w.heap.size w ((wa.setCell ⟨g, Tk, none⟩ (.int .u8 K)).setCell ⟨g, Tk + 1, none⟩ (.int .u8 (2 + (DD.length : Int)))).drew := ((HA.out.setCell (by simpa using HBW.out) _).setCell (by simpa using HBW.out) _).drew
            have m1 : ((wa.setCell ⟨g, Tk, none⟩ (.int .u8 K)).setCell ⟨g, Tk + 1, none⟩ (.int .u8 (2 + (DD.length : Int)))).drew.cell? ⟨wr.heap.size, 1, none⟩ = some (.slice sa DD.length sc) := by
              show ((wa.setCell ⟨g, Tk, none⟩ (.int .u8 K)).setCell ⟨g, Tk + 1, none⟩ (.int .u8 (2 + (DD.length : Int)))).cell? ⟨wr.heap.size, 1, none⟩ = _
              rw [World.cell?_setCell_other _ _ _ _ (by intro c; injection c; omega), World.cell?_setCell_other _ _ _ _ (by intro c; injection c; omega)]
              exact n1
            have HOB : Hid (OwnG ((wa.setCell ⟨g, Tk, none⟩ (.int .u8 K)).setCell ⟨g, Tk + 1, none⟩ (.int .u8 (2 + (DD.length : Int)))).drew g (((packR os k).set Tk K).set (Tk + 1) (2 + (DD.length : Int)))) := ⟨hownb.typed, hownb.cell⟩
            have HBB : Hid _ := hBb
            have HSB : Hid _ := HSR.out _ hBb
            have hRL : (((packR os k).set Tk K).set (Tk + 1) (2 + (DD.length : Int))).length = U := by simp [hpl]
            have HST : Hid (((((packR os k).set Tk K).set (Tk + 1) (2 + (DD.length : Int))).take (Tk + 2)) ++ DD ++ ((((packR os k).set Tk K).set (Tk + 1) (2 + (DD.length : Int))).drop (Tk + 2 + DD.length)) = packR os (k + 1)) := HSTEP.out
            clear hownb hBb HSTEP HOWN HA HSR n0 n1 x0 x1
            generalize ((wa.setCell ⟨g, Tk, none⟩ (.int .u8 K)).setCell ⟨g, Tk + 1, none⟩ (.int .u8 (2 + (DD.length : Int)))).drew = wb at *
            generalize hR : ((packR os k).set Tk K).set (Tk + 1) (2 + (DD.length : Int)) = R at *
            clear hR hwa HWA
            have t0 : (0 : Int) ≤ (Tk : Int) + 2 := by omega
            have t1 : ((Tk : Int) + 2).toNat = Tk + 2 := by omega
            by_cases hcap : U = Tk + 2
            · obtain rfl : DD = [] := List.length_eq_zero_iff.1 (by omega)
              have hinf : (Try.prog.info? 5).map (·.size) = some 1 := by kernel_rfl
              have HIN : Hid _ := hinf
              have hcap2 : (U : Int) = (Tk : Int) + 2 := by omega
              have HCAP : Hid _ := hcap
              clear hinf
              subst hcap
              go_region_law (refine step_copyR (R := fun w2 => w2 = wb.drew) rfl _ _ _ _ rfl rfl rfl ⟨_, _, run_copy_none wb.drew _ _ _ 5 _ sa _ _ _ sc Try.underlying25 HIN.out (by simp), rfl⟩ ?_; rintro v6 w6 rfl)
              go_wp2
              refine ⟨⟨_, _, _, ⟨k + 1, by omega, rfl, rfl, ?_, HBB.out.drew⟩, ?_, rfl, by simp⟩, by simp [intOf]; omega⟩
              · rw [← HST.out]
                have e : R.take (Tk + 2) ++ [] ++ R.drop (Tk + 2 + ([] : List Int).length) = R := by simp
                rw [e]
                exact ⟨HOB.out.typed, HOB.out.cell⟩
              · rw [HT1E.out]
                exact congrArg _ (by simp at hT1; omega)
            · have i4 : ¬ U = Tk + 2 := hcap
              have HOD : Hid (OwnG wb.drew g R) := ⟨HOB.out.typed, HOB.out.cell⟩
              have HSD : Hid (BytesAt wb.drew.heap.size wb.drew (.slice sa DD.length sc) DD) := HSB.out.later ((Below.refl _ _).drew)
              go_region_law (refine step_copyR rfl _ _ _ _ rfl rfl rfl (HOD.out.copy HSD.out (Tk + 2) (U - (Tk + 2)) (U - (Tk + 2)) (by rw [hRL]; omega) (by omega) _) ?_; rintro v6 w6 ⟨own6, only6⟩)
              have m6 : w6.cell? ⟨wr.heap.size, 1, none⟩ = some (.slice sa DD.length sc) := by
                rw [← m1]
                have := only6.other wr.heap.size hne
                simp only [World.cell?, this]
                rfl
              have OWN6 : Hid _ := own6
              have HB6 : Hid (Below w.heap.size w w6) := HBB.out.drew.trans (only6.below HBW.out)
              clear own6 only6 m1
              go_wp2
              refine ⟨⟨k + 1, by omega, by simp, ?_, ?_, HB6.out⟩, by simp [intOf]; omega⟩
              · rw [HT1E.out]
                exact congrArg _ (by omega)
              · rw [← HST.out]
                exact OWN6.out
          · have hf : Fit (packR os os.length) := packR_fit hfit hall (fun j hj => by
              rcases hz with hz | ⟨b, off, _, _, hc⟩
              · omega
              · obtain ⟨_, s, _, hs⟩ := hc j hj
                exact hs.fit)
            obtain rfl : k = os.length := by omega
            have HF : Hid _ := hf
            have HO : Hid _ := hown
            have HBF : Hid _ := hB
            clear hown hB hf
            go_wp2
            go_ret2
            refine ⟨_, packR os os.length, 0, rfl, ?_, HBF.out, HGD0.out⟩
            have hpl := HPR.out os.length (Nat.le_refl _)
            have hf := HF.out
            have := HO.out.bytes hf (by omega) 0 U U (by omega)
            rw [List.drop_zero, List.take_of_length_le (by omega)] at this
            exact .of_bytes this (Nat.le_refl _)

end Go.Proofs.Ytmoogfdmlbalbaa
