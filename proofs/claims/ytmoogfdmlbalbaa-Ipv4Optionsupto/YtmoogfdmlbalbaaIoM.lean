/-
  Options in memory and as bytes; Pack of package ipv4.
  Reading options: option and next of package ipv4.
  The next option of bytes.
  Options of package ipv4.
  Options of package ipv4: what catches, and the walk.
  Options of package ipv4: the walk.
-/
import Derived.Test.YtmoogfdmlbalbaaIv3
import Derived.Test.YtmoogfdmlbalbaaIr11a
namespace Go.Proofs.Ytmoogfdmlbalbaa
open Go Go.RowKit
set_option linter.unusedVariables false
set_option linter.unusedSimpArgs false

abbrev Opts := List (Int × List Int)
def oK (os : Opts) (j : Nat) : Int := (os[j]?.getD (0, [])).1
def oD (os : Opts) (j : Nat) : List Int := (os[j]?.getD (0, [])).2
def oTot (os : Opts) : Nat → Nat
  | 0 => 0
  | k + 1 => oTot os k + (2 + (oD os k).length)
def oGood (os : Opts) (j : Nat) : Prop := 2 ≤ oK os j ∧ (oD os j).length ≤ 38
def oAll (os : Opts) (k : Nat) : Prop := ∀ j, j < k → oGood os j
def oFlat (os : Opts) : Nat → List Int
  | 0 => []
  | k + 1 => oFlat os k ++ (oK os k :: ((2 + (oD os k).length : Nat) : Int) :: oD os k)
theorem oFlat_length (os : Opts) : ∀ k, (oFlat os k).length = oTot os k
  | 0 => rfl
  | k + 1 => by simp [oFlat, oTot, oFlat_length os k]; omega
theorem oAll_succ {os : Opts} {k : Nat} (h : oAll os k) (hk : oGood os k) : oAll os (k + 1) := fun j hj => by
  by_cases e : j = k
  · subst e; exact hk
  · exact h j (by omega)
theorem oTot_le {os : Opts} : ∀ {k : Nat}, oAll os k → oTot os k ≤ 40 * k
  | 0, _ => by simp [oTot]
  | k + 1, h => by
    have := oTot_le (os := os) (k := k) (fun j hj => h j (by omega))
    have := (h k (by omega)).2
    simp only [oTot]
    omega
theorem oTot_mono (os : Opts) : ∀ k d, oTot os k ≤ oTot os (k + d)
  | k, 0 => Nat.le_refl _
  | k, d + 1 => Nat.le_trans (oTot_mono os k d) (Nat.le_add_right (oTot os (k + d)) _)
def up4 (n : Nat) : Nat := (n + 3) / 4 * 4
/-- The row of which the first k options are written. -/
def packR (os : Opts) (k : Nat) : List Int := oFlat os k ++ List.replicate (up4 (oTot os os.length) - oTot os k) 0
theorem packR_length {os : Opts} {k : Nat} (hk : k ≤ os.length) : (packR os k).length = up4 (oTot os os.length) := by
  have h1 := oTot_mono os k (os.length - k)
  rw [show k + (os.length - k) = os.length by omega] at h1
  have h2 : oTot os os.length ≤ up4 (oTot os os.length) := by unfold up4; omega
  simp [packR, oFlat_length]
  omega
theorem packR_step {os : Opts} {k : Nat} (hk : k < os.length) :
    let r := ((packR os k).set (oTot os k) (oK os k)).set (oTot os k + 1) (((2 + (oD os k).length : Nat) : Int))
    r.take (oTot os k + 2) ++ oD os k ++ r.drop (oTot os k + 2 + (oD os k).length) = packR os (k + 1) := by
  intro r
  have h1 := oTot_mono os (k + 1) (os.length - (k + 1))
  rw [show k + 1 + (os.length - (k + 1)) = os.length by omega] at h1
  have h2 : oTot os os.length ≤ up4 (oTot os os.length) := by unfold up4; omega
  have e0 : oTot os (k + 1) = oTot os k + (2 + (oD os k).length) := rfl
  have hl := oFlat_length os k
  obtain ⟨m, hm⟩ : ∃ m, up4 (oTot os os.length) - oTot os k = m + 2 + (oD os k).length := ⟨up4 (oTot os os.length) - oTot os k - 2 - (oD os k).length, by omega⟩
  have er : r = oFlat os k ++ (oK os k :: ((2 + (oD os k).length : Nat) : Int) :: List.replicate (m + (oD os k).length) 0) := by
    show ((packR os k).set (oTot os k) (oK os k)).set (oTot os k + 1) _ = _
    unfold packR
    rw [hm, show m + 2 + (oD os k).length = (m + (oD os k).length) + 1 + 1 by omega, List.replicate_succ, List.replicate_succ, ← hl, List.set_append_right _ _ (Nat.le_refl _), List.set_append_right _ _ (by omega)]
    simp
  rw [er]
  have e3 : packR os (k + 1) = oFlat os k ++ (oK os k :: ((2 + (oD os k).length : Nat) : Int) :: oD os k) ++ List.replicate m 0 := by
    unfold packR
    rw [show up4 (oTot os os.length) - oTot os (k + 1) = m by omega]
    rfl
  rw [e3, ← hl]
  generalize oFlat os k = F
  generalize oD os k = D
  generalize oK os k = K
  generalize ((2 + D.length : Nat) : Int) = L
  have t1 : (F ++ (K :: L :: List.replicate (m + D.length) 0)).take (F.length + 2) = F ++ [K, L] := by
    rw [List.take_append, List.take_of_length_le (by omega)]
    simp
  have t2 : (F ++ (K :: L :: List.replicate (m + D.length) 0)).drop (F.length + 2 + D.length) = List.replicate m 0 := by
    rw [List.drop_append, List.drop_of_length_le (by omega), show F.length + 2 + D.length - F.length = D.length + 1 + 1 by omega, List.drop_succ_cons, List.drop_succ_cons, List.drop_replicate]
    simp
  rw [t1, t2]
  simp

theorem oFlat_fit {os : Opts} (hk : ∀ j, 0 ≤ oK os j ∧ oK os j < 256) : ∀ {k : Nat}, oAll os k → (∀ j, j < k → Fit (oD os j)) → Fit (oFlat os k)
  | 0, _, _ => fun z hz => by simp [oFlat] at hz
  | k + 1, ha, hd => fun z hz => by
    rw [oFlat, List.mem_append] at hz
    rcases hz with hz | hz
    · exact oFlat_fit hk (fun j hj => ha j (by omega)) (fun j hj => hd j (by omega)) z hz
    · have h38 := (ha k (by omega)).2
      simp only [List.mem_cons] at hz
      rcases hz with rfl | rfl | hz
      · exact hk k
      · omega
      · exact hd k (by omega) z hz
theorem packR_fit {os : Opts} (hk : ∀ j, 0 ≤ oK os j ∧ oK os j < 256) {k : Nat} (ha : oAll os k) (hd : ∀ j, j < k → Fit (oD os j)) : Fit (packR os k) := fun z hz => by
  rw [packR, List.mem_append] at hz
  rcases hz with hz | hz
  · exact oFlat_fit hk ha hd z hz
  · have := List.eq_of_mem_replicate hz
    omega

/-- Options that came in or were made. -/
structure OptsAt (n₀ : Nat) (W : World) (v : Value) (os : Opts) : Prop where
  fit : ∀ j, 0 ≤ oK os j ∧ oK os j < 256
  len : os.length ≤ 140737488351232
  val : ∃ a cap, v = .slice a os.length cap ∧ (os.length = 0 ∨ ∃ b off, a = some ⟨b, off, none⟩ ∧ b < n₀ ∧ ∀ j, j < os.length → W.cell? ⟨b, off + j * 2, none⟩ = some (.int .u8 (oK os j)) ∧ ∃ s, W.cell? ⟨b, off + j * 2 + 1, none⟩ = some s ∧ BytesAt n₀ W s (oD os j))
theorem OptsAt.later {A B : World} {v : Value} {os : Opts} (h : OptsAt A.heap.size A v os) (hb : Below A.heap.size A B) : OptsAt B.heap.size B v os := by
  obtain ⟨h1, hl, a, cap, hv, hz⟩ := h
  refine ⟨h1, hl, a, cap, hv, hz.imp id ?_⟩
  rintro ⟨b, off, rfl, hlt, hc⟩
  refine ⟨b, off, rfl, by have := hb.size; omega, fun j hj => ?_⟩
  obtain ⟨c0, s, c1, hs⟩ := hc j hj
  exact ⟨(hb.cell (p := ⟨b, off + j * 2, none⟩) hlt).trans c0, s, (hb.cell (p := ⟨b, off + j * 2 + 1, none⟩) hlt).trans c1, hs.later hb⟩

/-- What Pack answers. -/
def PackIs (os : Opts) (bs : List Int) (er : Int) : Prop :=
  (∃ k, k < os.length ∧ oAll os k ∧ ¬ oGood os k ∧ bs = [] ∧ er = 47) ∨ (oAll os os.length ∧ 40 < oTot os os.length ∧ bs = [] ∧ er = 2) ∨ (oAll os os.length ∧ oTot os os.length ≤ 40 ∧ bs = packR os os.length ∧ er = 0)
theorem PackIs.unique {os : Opts} {bs bs' : List Int} {er er' : Int} (h : PackIs os bs er) (h' : PackIs os bs' er') : bs = bs' ∧ er = er' := by
  rcases h with ⟨k, hk, ha, hn, rfl, rfl⟩ | ⟨ha, ht, rfl, rfl⟩ | ⟨ha, ht, rfl, rfl⟩ <;> rcases h' with ⟨k', hk', ha', hn', rfl, rfl⟩ | ⟨ha', ht', rfl, rfl⟩ | ⟨ha', ht', rfl, rfl⟩
  · exact ⟨rfl, rfl⟩
  · exact absurd (ha' k hk) hn
  · exact absurd (ha' k hk) hn
  · exact absurd (ha k' hk') hn'
  · exact ⟨rfl, rfl⟩
  · omega
  · exact absurd (ha k' hk') hn'
  · omega
  · exact ⟨rfl, rfl⟩
def PackPost (os : Opts) (w : World) (e : Ending) (w' : World) : Prop :=
  ∃ r bs er, e = .returned (.tuple #[r, .int .i64 er]) ∧ RowC w' r bs ∧ Below w.heap.size w w' ∧ PackIs os bs er
theorem RowC.nil (w : World) : RowC w (.slice none 0 0) [] := ⟨fun z hz => by simp at hz, by simp, _, _, rfl, Nat.le_refl _, .inl rfl⟩

set_option maxHeartbeats 600000 in
set_option maxRecDepth 100000 in
theorem Pack_calls (v : Value) (os : Opts) (w : World) (h : OptsAt w.heap.size w v os) :
    Calls Try.prog 28 #[v] w fun e w' => PackPost os w e w' := by
  obtain ⟨hfit, hlen, a, cap, rfl, hz⟩ := h
  go_enter Try.func28, Try.ntmps28
  go_wp2
  go_loopw [4, 13] (fun x i wr => ∃ k : Nat, k ≤ os.length ∧ i = .int .i64 k ∧ oAll os k ∧ x = .int .i64 (oTot os k : Nat) ∧ Below w.heap.size w wr) (fun _ i _ => os.length - (intOf i).toNat)
  case atStart => exact ⟨0, Nat.zero_le _, rfl, fun j hj => absurd hj (by omega), rfl, Below.refl _ _⟩
  case round =>
    obtain ⟨k, hk, rfl, hall, rfl, hB⟩ := hrel
    have htl := oTot_le hall
    by_cases hlt : k < os.length
    · have hz' := hz
      rcases hz' with hz' | ⟨b, off, rfl, hbn, hc⟩
      · omega
      obtain ⟨c0, s, c1, hs⟩ := hc k hlt
      obtain ⟨_, hdl, sa, sc, rfl, _⟩ := hs
      have d0 := (hB.cell (p := ⟨b, off + k * 2, none⟩) hbn).trans c0
      have d1 := (hB.cell (p := ⟨b, off + k * 2 + 1, none⟩) hbn).trans c1
      have hbad : ¬ oGood os k → PackIs os [] 47 := fun hn => .inl ⟨k, hlt, hall, hn, rfl, rfl⟩
      have hgo : oGood os k → oAll os (k + 1) := fun hg => oAll_succ hall hg
      have hT1 : (((oTot os (k + 1) : Nat) : Int)) = (oTot os k : Int) + (2 + ((oD os k).length : Int)) := by simp only [oTot]; omega
      have hfk := hfit k
      have hgd : oGood os k ↔ 2 ≤ oK os k ∧ (oD os k).length ≤ 38 := Iff.rfl
      generalize oGood os k = G at *
      generalize hT1e : oTot os (k + 1) = T1 at *
      have HT1E : Hid _ := hT1e
      clear hT1e
      generalize oTot os k = T at *
      generalize oK os k = K at *
      generalize (oD os k).length = D at *
      have HT : Hid _ := hT1
      have HBAD : Hid _ := hbad
      have HGO : Hid _ := hgo
      have HGD : Hid _ := hgd
      clear hT1 hbad hgo hgd hc hz c0 c1
      have hA := hB.alloc hB.size (.cells #[.int .u8 K, .slice sa D sc] 76)
      have w1 : IntKind.i64.wrap (2 + (D : Int)) = 2 + (D : Int) := wrapi64 _ (by omega)
      have w2 : IntKind.i64.wrap ((T : Int) + (2 + (D : Int))) = (T : Int) + (2 + (D : Int)) := wrapi64 _ (by omega)
      by_cases h0 : K = 0
      · subst h0
        go_wp2
        go_ret2
        exact ⟨_, [], _, rfl, RowC.nil _, hA, HBAD.out (fun hg => by have := (HGD.out.1 hg).1; omega)⟩
      · by_cases h1 : K = 1
        · subst h1
          go_wp2
          go_ret2
          exact ⟨_, [], _, rfl, RowC.nil _, hA, HBAD.out (fun hg => by have := (HGD.out.1 hg).1; omega)⟩
        · have q0 : (K == 0) = false := by simp [h0]
          have q1 : (K == 1) = false := by simp [h1]
          by_cases h2 : 38 < D
          · have q2 : decide ((38 : Int) < (D : Int)) = true := by simp; omega
            go_wp2
            go_ret2
            exact ⟨_, [], _, rfl, RowC.nil _, hA, HBAD.out (fun hg => by have := (HGD.out.1 hg).2; omega)⟩
          · have q2 : decide ((38 : Int) < (D : Int)) = false := by simp; omega
            have hG : G := HGD.out.2 ⟨by omega, by omega⟩
            have HG : Hid _ := hG
            clear hG h0 h1 h2
            go_wp2
            exact ⟨⟨k + 1, by omega, by simp, HGO.out HG.out, by rw [HT1E.out, HT.out], hA⟩, by simp [intOf]; omega⟩
    · obtain rfl : k = os.length := by omega
      have hmany : 40 < oTot os os.length → PackIs os [] 2 := fun hm => .inr (.inl ⟨hall, hm, rfl, rfl⟩)
      have hgood : oTot os os.length ≤ 40 → PackIs os (packR os os.length) 0 := fun hm => .inr (.inr ⟨hall, hm, rfl, rfl⟩)
      have HMANY : Hid _ := hmany
      have HGOOD : Hid _ := hgood
      clear hmany hgood
      by_cases h40 : 40 < oTot os os.length
      · have q : decide ((40 : Int) < ((oTot os os.length : Nat) : Int)) = true := by simp; omega
        have HB : Hid _ := hB
        have HH : Hid (PackIs os [] 2) := HMANY.out h40
        clear hB h40 htl hz hall
        generalize oTot os os.length = T at *
        go_wp2
        go_ret2
        exact ⟨_, [], _, rfl, RowC.nil _, HB.out, HH.out⟩
      · have q : decide ((40 : Int) < ((oTot os os.length : Nat) : Int)) = false := by simp; omega
        obtain ⟨i, hi, hz0, hs, hby⟩ := info_parts info_u8
        have hcast : (((oTot os os.length : Nat) : Int) + 4 - 1) / 4 * 4 = ((up4 (oTot os os.length) : Nat) : Int) := by unfold up4; omega
        have hu : up4 (oTot os os.length) ≤ 40 := by unfold up4; omega
        have HGD0 : Hid (PackIs os (packR os os.length) 0) := HGOOD.out (by omega)
        have HPR : Hid (∀ k, k ≤ os.length → (packR os k).length = up4 (oTot os os.length)) := fun k hk => packR_length hk
        have HP0 : Hid (packR os 0 = List.replicate (up4 (oTot os os.length)) 0) := by show [] ++ _ = _; simp [oTot]
        clear HGOOD HMANY h40
        generalize hT : oTot os os.length = T at *
        generalize hU : up4 T = U at *
        have HT : Hid _ := hT
        have HU : Hid _ := hU
        have HB : Hid _ := hB
        clear hT hU hB
        go_wp2_with (at_make; refine wpList_make_full _ rfl _ _ _ rfl wr.heap.size 5 i (.int .u8 0) 1 Try.underlying25 hi hz0 hs .i64 .i64 _ _ U rfl rfl rfl rfl (by rw [hby]; omega) (by unfold maxLen; omega) (Nat.le_refl _) ?_; intro w4 hown hgr; have hG4 := made_own hown; have hB4 := (Below.refl _ wr).grown hgr (Nat.le_refl _) (fun k hk => by cases hk); clear hown hgr)
        have HG4 : Hid (OwnG w4 wr.heap.size (packR os 0)) := by rw [HP0.out]; exact hG4
        have hB04 := HB.out.trans (hB4.mono HB.out.size)
        have HB04 : Hid _ := hB04
        have HBW : Hid (w.heap.size ≤ wr.heap.size) := HB.out.size
        clear hG4 hB4 hB04 HP0 HB hz0 hs hi hby
        generalize wr.heap.size = g at *
        go_loopw [8, 48] (fun x i wr => ∃ k : Nat, k ≤ os.length ∧ i = .int .i64 k ∧ x = .int .i64 (oTot os k : Nat) ∧ OwnG wr g (packR os k) ∧ Below w.heap.size w wr) (fun _ i _ => os.length - (intOf i).toNat)
        case atStart => exact ⟨0, Nat.zero_le _, rfl, rfl, HG4.out, HB04.out⟩
        case round =>
          rename_i wq _
          obtain ⟨k, hk, rfl, rfl, hown, hB⟩ := hrel
          by_cases hlt : k < os.length
          · have hz' := hz
            rcases hz' with hz' | ⟨b, off, rfl, hbn, hc⟩
            · omega
            obtain ⟨c0, s, c1, hs⟩ := hc k hlt
            have hs0 := hs
            obtain ⟨_, hdl, sa, sc, rfl, _⟩ := hs
            have d0 := (hB.cell (p := ⟨b, off + k * 2, none⟩) hbn).trans c0
            have d1 := (hB.cell (p := ⟨b, off + k * 2 + 1, none⟩) hbn).trans c1
            have hstep := packR_step hlt
            have hm1 := oTot_mono os (k + 1) (os.length - (k + 1))
            rw [show k + 1 + (os.length - (k + 1)) = os.length by omega, HT.out] at hm1
            have hU2 : T ≤ U := by rw [← HU.out]; unfold up4; omega
            have hT1 : oTot os (k + 1) = oTot os k + (2 + (oD os k).length) := rfl
            have hpl := HPR.out k (by omega)
            have hgl := hown.lt
            have hA := hB.alloc hB.size (.cells #[.int .u8 (oK os k), .slice sa (oD os k).length sc] 76)
            have hBa := (Below.refl wr.heap.size wr).alloc (Nat.le_refl _) (.cells #[.int .u8 (oK os k), .slice sa (oD os k).length sc] 76)
            have hown2 := hown.kept hgl hBa
            have n0 : (wr.alloc (.cells #[.int .u8 (oK os k), .slice sa (oD os k).length sc] 76)).cell? ⟨wr.heap.size, 0, none⟩ = some (.int .u8 (oK os k)) := by rw [World.cell?_alloc_new]; rfl
            have n1 : (wr.alloc (.cells #[.int .u8 (oK os k), .slice sa (oD os k).length sc] 76)).cell? ⟨wr.heap.size, 1, none⟩ = some (.slice sa (oD os k).length sc) := by rw [World.cell?_alloc_new]; rfl
            have hkk : oAll os (k + 1) := fun j hj => hall j (by omega)
            have hD38 : (oD os k).length ≤ 38 := (hall k hlt).2
            have hfk := hfit k
            have HSTEP : Hid _ := hstep
            have HOWN : Hid _ := hown2
            have HSR : Hid (∀ W, Below w.heap.size w W → BytesAt W.heap.size W (.slice sa (oD os k).length sc) (oD os k)) := fun W hW => hs0.later hW
            have HA : Hid _ := hA
            generalize hT1e : oTot os (k + 1) = T1 at *
            have HT1E : Hid _ := hT1e
            clear hT1e hc hz c0 c1 hown2 hs0 hA hBa hstep hown hall hkk
            generalize oTot os k = Tk at *
            generalize oK os k = K at *
            generalize hDD : oD os k = DD at *
            have HDD : Hid _ := hDD
            clear hDD
            have x0 := HOWN.out.cell Tk (by omega)
            have x1 := HOWN.out.cell (Tk + 1) (by omega)
            have f0 := HOWN.out.open Tk
            have f1 := HOWN.out.open (Tk + 1)
            generalize (packR os k)[Tk]?.getD 0 = z0 at *
            generalize (packR os k)[Tk + 1]?.getD 0 = z1 at *
            have i0 : (Tk : Int) < (U : Int) := by omega
            have i1 : (Tk : Int) + 1 < (U : Int) := by omega
            have i2 : (Tk : Int) + 2 ≤ (U : Int) := by omega
            have hne : ¬ wr.heap.size = g := by omega
            have v1 : IntKind.i64.wrap (2 + (DD.length : Int)) = 2 + (DD.length : Int) := wrapi64 _ (by omega)
            have v2 : IntKind.u8.wrap (2 + (DD.length : Int)) = 2 + (DD.length : Int) := by rw [IntKind.wrap_u8']; omega
            have v3 : IntKind.i64.wrap ((Tk : Int) + 1) = (Tk : Int) + 1 := wrapi64 _ (by omega)
            have v4 : IntKind.i64.wrap ((Tk : Int) + 2) = (Tk : Int) + 2 := wrapi64 _ (by omega)
            have v5 : IntKind.i64.wrap ((Tk : Int) + (2 + (DD.length : Int))) = (Tk : Int) + (2 + (DD.length : Int)) := wrapi64 _ (by omega)
            generalize hwa : wr.alloc (.cells #[.int .u8 K, .slice sa DD.length sc] 76) = wa at *
            have HWA : Hid _ := hwa
            go_wp2_with fail
            go_region
            go_wp2_with fail
            clear f0 f1
            have hownb := (HOWN.out.set Tk (by omega) K).set (Tk + 1) (by simp; omega) (2 + (DD.length : Int))
            have hBb : Below w.heap.size w ((wa.setCell ⟨g, Tk, none⟩ (.int .u8 K)).setCell ⟨g, Tk + 1, none⟩ (.int .u8 (2 + (DD.length : Int)))).drew := ((HA.out.setCell (by simpa using HBW.out) _).setCell (by simpa using HBW.out) _).drew
            have m1 : ((wa.setCell ⟨g, Tk, none⟩ (.int .u8 K)).setCell ⟨g, Tk + 1, none⟩ (.int .u8 (2 + (DD.length : Int)))).drew.cell? ⟨wr.heap.size, 1, none⟩ = some (.slice sa DD.length sc) := by
              show ((wa.setCell ⟨g, Tk, none⟩ (.int .u8 K)).setCell ⟨g, Tk + 1, none⟩ (.int .u8 (2 + (DD.length : Int)))).cell? ⟨wr.heap.size, 1, none⟩ = _
              rw [World.cell?_setCell_other _ _ _ _ (by intro c; injection c; omega), World.cell?_setCell_other _ _ _ _ (by intro c; injection c; omega)]
              exact n1
            have HOB : Hid (OwnG ((wa.setCell ⟨g, Tk, none⟩ (.int .u8 K)).setCell ⟨g, Tk + 1, none⟩ (.int .u8 (2 + (DD.length : Int)))).drew g (((packR os k).set Tk K).set (Tk + 1) (2 + (DD.length : Int)))) := ⟨hownb.typed, hownb.cell⟩
            have HBB : Hid _ := hBb
            have HSB : Hid _ := HSR.out _ hBb
            have hRL : (((packR os k).set Tk K).set (Tk + 1) (2 + (DD.length : Int))).length = U := by simp [hpl]
            have HST : Hid (((((packR os k).set Tk K).set (Tk + 1) (2 + (DD.length : Int))).take (Tk + 2)) ++ DD ++ ((((packR os k).set Tk K).set (Tk + 1) (2 + (DD.length : Int))).drop (Tk + 2 + DD.length)) = packR os (k + 1)) := HSTEP.out
            clear hownb hBb HSTEP HOWN HA HSR n0 n1 x0 x1
            generalize ((wa.setCell ⟨g, Tk, none⟩ (.int .u8 K)).setCell ⟨g, Tk + 1, none⟩ (.int .u8 (2 + (DD.length : Int)))).drew = wb at *
            generalize hR : ((packR os k).set Tk K).set (Tk + 1) (2 + (DD.length : Int)) = R at *
            clear hR hwa HWA
            have t0 : (0 : Int) ≤ (Tk : Int) + 2 := by omega
            have t1 : ((Tk : Int) + 2).toNat = Tk + 2 := by omega
            by_cases hcap : U = Tk + 2
            · obtain rfl : DD = [] := List.length_eq_zero_iff.1 (by omega)
              have hinf : (Try.prog.info? 5).map (·.size) = some 1 := by kernel_rfl
              have HIN : Hid _ := hinf
              have hcap2 : (U : Int) = (Tk : Int) + 2 := by omega
              have HCAP : Hid _ := hcap
              clear hinf
              subst hcap
              go_region_law (refine step_copyR (R := fun w2 => w2 = wb.drew) rfl _ _ _ _ rfl rfl rfl ⟨_, _, run_copy_none wb.drew _ _ _ 5 _ sa _ _ _ sc Try.underlying25 HIN.out (by simp), rfl⟩ ?_; rintro v6 w6 rfl)
              go_wp2
              refine ⟨⟨_, _, _, ⟨k + 1, by omega, rfl, rfl, ?_, HBB.out.drew⟩, ?_, rfl, by simp⟩, by simp [intOf]; omega⟩
              · rw [← HST.out]
                have e : R.take (Tk + 2) ++ [] ++ R.drop (Tk + 2 + ([] : List Int).length) = R := by simp
                rw [e]
                exact ⟨HOB.out.typed, HOB.out.cell⟩
              · rw [HT1E.out]
                exact congrArg _ (by simp at hT1; omega)
            · have i4 : ¬ U = Tk + 2 := hcap
              have HOD : Hid (OwnG wb.drew g R) := ⟨HOB.out.typed, HOB.out.cell⟩
              have HSD : Hid (BytesAt wb.drew.heap.size wb.drew (.slice sa DD.length sc) DD) := HSB.out.later ((Below.refl _ _).drew)
              go_region_law (refine step_copyR rfl _ _ _ _ rfl rfl rfl (HOD.out.copy HSD.out (Tk + 2) (U - (Tk + 2)) (U - (Tk + 2)) (by rw [hRL]; omega) (by omega) _) ?_; rintro v6 w6 ⟨own6, only6⟩)
              have m6 : w6.cell? ⟨wr.heap.size, 1, none⟩ = some (.slice sa DD.length sc) := by
                rw [← m1]
                have := only6.other wr.heap.size hne
                simp only [World.cell?, this]
                rfl
              have OWN6 : Hid _ := own6
              have HB6 : Hid (Below w.heap.size w w6) := HBB.out.drew.trans (only6.below HBW.out)
              clear own6 only6 m1
              go_wp2
              refine ⟨⟨k + 1, by omega, by simp, ?_, ?_, HB6.out⟩, by simp [intOf]; omega⟩
              · rw [HT1E.out]
                exact congrArg _ (by omega)
              · rw [← HST.out]
                exact OWN6.out
          · have hf : Fit (packR os os.length) := packR_fit hfit hall (fun j hj => by
              rcases hz with hz | ⟨b, off, _, _, hc⟩
              · omega
              · obtain ⟨_, s, _, hs⟩ := hc j hj
                exact hs.fit)
            obtain rfl : k = os.length := by omega
            have HF : Hid _ := hf
            have HO : Hid _ := hown
            have HBF : Hid _ := hB
            clear hown hB hf
            go_wp2
            go_ret2
            refine ⟨_, packR os os.length, 0, rfl, ?_, HBF.out, HGD0.out⟩
            have hpl := HPR.out os.length (Nat.le_refl _)
            have hf := HF.out
            have := HO.out.bytes hf (by omega) 0 U U (by omega)
            rw [List.drop_zero, List.take_of_length_le (by omega)] at this
            exact .of_bytes this (Nat.le_refl _)

end Go.Proofs.Ytmoogfdmlbalbaa

namespace Go.Proofs.Ytmoogfdmlbalbaa
open Go Go.RowKit
set_option linter.unusedVariables false
set_option linter.unusedSimpArgs false

/-- Bytes that are left, in a block of an older world. -/
structure RowS (w : World) (s : Value) (ys : List Int) (b off cap : Nat) : Prop where
  val : s = .slice (some ⟨b, off, none⟩) ys.length cap
  room : ys.length ≤ cap
  lt : b < w.heap.size
  cell : ∀ j, j < ys.length → w.cell? ⟨b, off + j, none⟩ = some (.int .u8 (gz ys j))
  fit : Fit ys
  len : ys.length ≤ 140737488351232
theorem RowS.row {w : World} {s : Value} {ys : List Int} {b off cap : Nat} (h : RowS w s ys b off cap) : RowC w s ys :=
  ⟨h.fit, h.len, _, _, h.val, h.room, .inr ⟨b, off, rfl, h.lt, h.cell⟩⟩
theorem RowC.rowS {w : World} {s : Value} {ys : List Int} (h : RowC w s ys) (h0 : 0 < ys.length) : ∃ b off cap, RowS w s ys b off cap := by
  obtain ⟨b, off, cap, e, h1, h2, h3⟩ := h.some h0
  exact ⟨b, off, cap, e, h1, h2, h3, h.fit, h.len⟩
theorem gz_drop (ys : List Int) (n j : Nat) : gz (ys.drop n) j = gz ys (n + j) := by simp [gz]
theorem RowS.rest {w : World} {s : Value} {ys : List Int} {b off cap : Nat} (h : RowS w s ys b off cap) (n : Nat) (hn : n ≤ ys.length) : RowS w (restV b off ys.length cap n) (ys.drop n) b (nxt off cap n) (cap - n) := by
  have hr := h.room
  refine ⟨by rw [restV_eq]; simp, by simp; omega, h.lt, fun j hj => ?_, fun z hz => h.fit z (List.mem_of_mem_drop hz), by have := h.len; simp; omega⟩
  simp only [List.length_drop] at hj
  rw [gz_drop, ← h.cell (n + j) (by omega)]
  unfold nxt
  rw [if_neg (by omega), Nat.add_assoc]

/-- A list in its box. -/
structure ListW (w W : World) (R : Nat) (s : Value) (N : Nat) : Prop where
  blk : W.heap[R]? = some (.cells [s, .int .i64 N].toArray 87)
  up : w.heap.size ≤ R
  bel : Below w.heap.size w W
theorem ListW.put {w W : World} {R N : Nat} {s : Value} (h : ListW w W R s N) (s' : Value) : ListW w (W.setCell ⟨R, 0, none⟩ s') R s' N :=
  ⟨by rw [blk_set h.blk]; rfl, h.up, h.bel.setCell h.up _⟩
theorem ListW.drew {w W : World} {R N : Nat} {s : Value} (h : ListW w W R s N) : ListW w W.drew R s N := ⟨h.blk, h.up, h.bel.drew⟩
theorem ListW.on {w W W' : World} {R N : Nat} {s : Value} (h : ListW w W R s N) (hb : Below W.heap.size W W') : ListW w W' R s N := ⟨blk_on h.blk hb, h.up, h.bel.trans (hb.mono h.bel.size)⟩

/-- Nothing old but one block is turned. -/
structure But (R : Nat) (w w' : World) : Prop where
  os : w'.os = w.os
  tape : w'.tape = w.tape
  output : w'.output = w.output
  size : w.heap.size ≤ w'.heap.size
  other : ∀ j, j < w.heap.size → j ≠ R → w'.heap[j]? = w.heap[j]?
section
variable {R : Nat} {u v w : World}
theorem But.refl (R : Nat) (w : World) : But R w w := ⟨rfl, rfl, rfl, Nat.le_refl _, fun _ _ _ => rfl⟩
theorem But.trans (h : But R u v) (g : But R v w) : But R u w :=
  ⟨g.os.trans h.os, g.tape.trans h.tape, g.output.trans h.output, Nat.le_trans h.size g.size, fun j hj hn => (g.other j (Nat.lt_of_lt_of_le hj h.size) hn).trans (h.other j hj hn)⟩
theorem But.of_only (h : Only R u v) : But R u v := ⟨h.os, h.tape, h.output, by rw [h.size]; exact Nat.le_refl _, fun j _ hn => h.other j hn⟩
theorem But.of_below (h : Below u.heap.size u v) : But R u v := ⟨h.os, h.tape, h.output, h.size, fun j hj _ => h.block j hj⟩
theorem But.drew (h : But R u v) : But R u v.drew := ⟨h.os, h.tape, h.output, h.size, h.other⟩
theorem But.alloc (h : But R u v) (o : Obj) : But R u (v.alloc o) := h.trans (.of_below ((Below.refl _ v).alloc (Nat.le_refl _) o))
theorem But.blk (h : But R u v) {j : Nat} {o : Obj} (hj : u.heap[j]? = some o) (hn : j ≠ R) : v.heap[j]? = some o := (h.other j (Array.getElem?_eq_some_iff.1 hj).1 hn).trans hj
theorem But.off (h : But R u v) {g : Nat} (ho : Only g v w) (hg : u.heap.size ≤ g) : But R u w := ⟨ho.os.trans h.os, ho.tape.trans h.tape, ho.output.trans h.output, by rw [ho.size]; exact h.size, fun j hj hn => (ho.other j (by omega)).trans (h.other j hj hn)⟩
theorem But.below (h : But R u v) {B : Nat} (hB : B ≤ R) (hu : B ≤ u.heap.size) : Below B u v := ⟨h.os, h.tape, h.output, h.size, fun j hj => h.other j (by omega) (by omega)⟩
end

theorem octet_row {w W : World} {R N b off cap : Nat} {s : Value} {ys : List Int} (hr : RowS w s ys b off cap) (hL : ListW w W R s N) (h1 : 1 ≤ ys.length) :
    Calls Try.prog 55 #[.pointer (some ⟨R, 0, none⟩)] W fun e w' => e = .returned (.int .u8 (gz ys 0)) ∧ ListW w w' R (restV b off ys.length cap 1) N ∧ Only R W w' := by
  have hc := blk_cell hL.blk (j := 0) rfl
  rw [hr.val] at hc
  have hlt := hr.lt
  have hup := hL.up
  refine (octet_calls R b off ys.length cap (gz ys 0) W hc (blk_open hL.blk 0) h1 hr.room (by omega) ((hL.bel.cell (p := ⟨b, off, none⟩) hlt).trans (hr.cell 0 (by omega)))).mono ?_
  rintro e w' ⟨rfl, rfl⟩
  exact ⟨rfl, hL.put _, (Only.refl _ _).set _ _⟩
theorem run_row {w W : World} {R N b off cap : Nat} {s : Value} {ys : List Int} (hr : RowS w s ys b off cap) (hL : ListW w W R s N) (n : Nat) (hn : n ≤ ys.length) :
    Calls Try.prog 58 #[.pointer (some ⟨R, 0, none⟩), .int .i64 n] W fun e w' => e = .returned (.slice (some ⟨b, off, none⟩) n cap) ∧ ListW w w' R (restV b off ys.length cap n) N ∧ Only R W w' := by
  have hc := blk_cell hL.blk (j := 0) rfl
  rw [hr.val] at hc
  refine (run_calls R b off ys.length cap n W hc (blk_open hL.blk 0) hn hr.room).mono ?_
  rintro e w' ⟨rfl, rfl⟩
  exact ⟨rfl, hL.put _, (Only.refl _ _).set _ _⟩

theorem res1t {P : Program} {fn : Func} {a : Tmp} {t : TypeId} (h : fn.results = #[.cell a t]) {tmps : Array Value} {R : Addr} (hp : tmps.getD a undef = .pointer (some R)) {v : Value} {w : World} (hl : (loadVar t R).run P w = .ok v w) :
    (results fn tmps).run P w = .ok v w := by
  rw [Array.getD_eq_getD_getElem?] at hp
  simp [results, h, hp, asAddr, hl]
theorem res2t {P : Program} {fn : Func} {a b : Tmp} {t : TypeId} (h : fn.results = #[.cell a t, .tmp b]) {tmps : Array Value} {R : Addr} (hp : tmps.getD a undef = .pointer (some R)) {v : Value} {w : World} (hl : (loadVar t R).run P w = .ok v w) :
    (results fn tmps).run P w = .ok (.tuple #[v, tmps.getD b undef]) w := by
  rw [Array.getD_eq_getD_getElem?] at hp
  simp [results, h, hp, asAddr, hl]

def badO (ys : List Int) : Prop := ys.length < 2 ∨ gz ys 1 < 2 ∨ (ys.length : Int) < gz ys 1

set_option maxHeartbeats 600000 in
set_option maxRecDepth 100000 in
theorem option_bad {w W : World} {R N : Nat} {s : Value} {ys : List Int} (hr : RowC w s ys) (hL : ListW w W R s N) (h1 : 1 ≤ ys.length) (hN : ys.length ≤ N) (hN2 : N ≤ 140737488351232) (hb : badO ys) :
    Calls Try.prog 59 #[.pointer (some ⟨R, 0, none⟩)] W fun e w' => e = .panicked [faultP ((N : Int) - ys.length) 47] ∧ Below w.heap.size w w' ∧ But R W w' := by
  obtain ⟨b, off, cap, hS⟩ := hr.rowS h1
  have hBut : But R W (W.alloc (.cells #[.int .u8 0, .slice none 0 0] 76)).drew := ((But.refl R W).alloc _).drew
  have HBUT : Hid _ := hBut
  clear hBut
  replace hL := hL.on ((Below.refl W.heap.size W).alloc (Nat.le_refl _) (.cells #[.int .u8 0, .slice none 0 0] 76))
  have c0 := blk_cell hL.blk (j := 0) rfl
  have c1 := blk_cell hL.blk (j := 1) rfl
  rw [hS.val] at c0
  have v0 : IntKind.i64.wrap ((N : Int) - (ys.length : Int)) = (N : Int) - (ys.length : Int) := wrapi64 _ (by omega)
  by_cases h2 : ys.length < 2
  · have q0 : decide ((2 : Int) ≤ (ys.length : Int)) = false := by simp; omega
    have HB : Hid _ := hL.bel.drew
    have HB2 : Hid _ := hL.bel
    clear hb hL hr hS
    generalize ys.length = L at *
    go_enter Try.func59, Try.ntmps59
    go_wp2_with fail
    go_region
    go_wp2_with fail
    refine Calls.mono (must_bad _ _ _) ?_
    rintro e1 w1 ⟨rfl, hw1⟩
    obtain rfl := hw1.symm
    exact ⟨rfl, rfl, HB.out, HBUT.out⟩
  · have q0 : decide ((2 : Int) ≤ (ys.length : Int)) = true := by simp; omega
    have hS1 := hS.rest 1 (by omega)
    have hg := hS.fit.gz 1
    have e1 : gz (ys.drop 1) 0 = gz ys 1 := by rw [gz_drop]
    have HO1 : Hid _ := octet_row hS hL.drew h1
    have HO2 : Hid (∀ W, ListW w W R (restV b off ys.length cap 1) N → Calls Try.prog 55 #[.pointer (some ⟨R, 0, none⟩)] W fun e w' => e = .returned (.int .u8 (gz ys 1)) ∧ ListW w w' R (restV b (nxt off cap 1) (ys.length - 1) (cap - 1) 1) N ∧ Only R W w') := fun W hW => by
      have := octet_row hS1 hW (by simp; omega)
      rwa [e1, List.length_drop] at this
    have hb' : gz ys 1 < 2 ∨ (ys.length : Int) < gz ys 1 := hb.resolve_left h2
    have v1 : IntKind.i64.wrap (gz ys 1 - 2) = gz ys 1 - 2 := wrapi64 _ (by omega)
    obtain ⟨L2, hLn⟩ : ∃ L2, L2 = ys.length - 1 - 1 := ⟨_, rfl⟩
    have hl2 : restV b (nxt off cap 1) (ys.length - 1) (cap - 1) 1 = .slice (some ⟨b, nxt (nxt off cap 1) (cap - 1) 1, none⟩) L2 (cap - 1 - 1) := by rw [hLn]; exact restV_eq ..
    have hq2 : (L2 : Int) = (ys.length : Int) - 2 := by omega
    have HQ2 : Hid _ := hq2
    clear hLn hq2
    have HL2 : Hid _ := hl2
    clear hb hL hr hS hS1 e1 hl2
    generalize gz ys 1 = z at *
    generalize gz ys 0 = z0 at *
    generalize restV b off ys.length cap 1 = s1 at *
    generalize restV b (nxt off cap 1) (ys.length - 1) (cap - 1) 1 = s2 at *
    go_enter Try.func59, Try.ntmps59
    go_wp2_with fail
    go_region
    go_wp2_with fail
    refine Calls.mono (must_good _ _ _) ?_
    rintro e1 w1 ⟨rfl, hw1⟩
    obtain rfl := hw1.symm
    clear hw1
    go_wp2_with fail
    refine Calls.mono HO1.out ?_
    rintro e2 w2 ⟨rfl, hL2, hO2⟩
    have HL2' : Hid _ := hL2
    have HBT2 : Hid _ := HBUT.out.trans (.of_only hO2)
    clear hO2
    clear hL2
    go_wp2_with fail
    refine Calls.mono (HO2.out _ HL2'.out) ?_
    rintro e3 w3 ⟨rfl, hL3, hO3⟩
    have HBT3 : Hid _ := HBT2.out.trans (.of_only hO3)
    clear hO3
    have d0 := blk_cell hL3.blk (j := 0) rfl
    rw [HL2.out] at d0
    have HB : Hid _ := hL3.bel
    clear hL3 c0 c1
    by_cases hz : z < 2
    · have q1 : decide ((0 : Int) ≤ z - 2) = false := by simp; omega
      go_wp2_with fail
      refine Calls.mono (must_bad _ _ _) ?_
      rintro e4 w4 ⟨rfl, hw4⟩
      obtain rfl := hw4.symm
      exact ⟨rfl, rfl, HB.out, HBT3.out⟩
    · have q1 : decide ((0 : Int) ≤ z - 2) = true := by simp; omega
      have q2 : decide (z - 2 ≤ (L2 : Int)) = false := by have := HQ2.out; simp; omega
      go_wp2_with fail
      refine Calls.mono (must_bad _ _ _) ?_
      rintro e4 w4 ⟨rfl, hw4⟩
      obtain rfl := hw4.symm
      exact ⟨rfl, rfl, HB.out, HBT3.out⟩

set_option maxHeartbeats 1000000 in
set_option maxRecDepth 100000 in
theorem option_good {w W : World} {R N : Nat} {s : Value} {ys : List Int} (hr : RowC w s ys) (hL : ListW w W R s N) (h1 : 1 ≤ ys.length) (hN : ys.length ≤ N) (hN2 : N ≤ 140737488351232) (hb : ¬ badO ys) :
    Calls Try.prog 59 #[.pointer (some ⟨R, 0, none⟩)] W fun e w' => ∃ d s', e = .returned (.agg #[.int .u8 (gz ys 0), d]) ∧ BytesAt w.heap.size w d ((ys.drop 2).take ((gz ys 1).toNat - 2)) ∧ RowC w s' (ys.drop (gz ys 1).toNat) ∧ ListW w w' R s' N ∧ But R W w' := by
  obtain ⟨b, off, cap, hS⟩ := hr.rowS h1
  have rb := blk_new W (.cells [.int .u8 0, .slice none 0 0].toArray 76)
  have hRW : R < W.heap.size := (Array.getElem?_eq_some_iff.1 hL.blk).1
  have hBut : But R W (W.alloc (.cells #[.int .u8 0, .slice none 0 0] 76)).drew := ((But.refl R W).alloc _).drew
  have HBUT : Hid _ := hBut
  have HRB : Hid _ := rb
  clear hBut rb
  replace hL := hL.on ((Below.refl W.heap.size W).alloc (Nat.le_refl _) (.cells #[.int .u8 0, .slice none 0 0] 76))
  have c0 := blk_cell hL.blk (j := 0) rfl
  have c1 := blk_cell hL.blk (j := 1) rfl
  rw [hS.val] at c0
  have v0 : IntKind.i64.wrap ((N : Int) - (ys.length : Int)) = (N : Int) - (ys.length : Int) := wrapi64 _ (by omega)
  unfold badO at hb
  have hb2 : 2 ≤ ys.length ∧ 2 ≤ gz ys 1 ∧ gz ys 1 ≤ ys.length := by omega
  have q0 : decide ((2 : Int) ≤ (ys.length : Int)) = true := by simp; omega
  have hS1 := hS.rest 1 (by omega)
  have hS2 := hS1.rest 1 (by simp; omega)
  have hg := hS.fit.gz 1
  have e1 : gz (ys.drop 1) 0 = gz ys 1 := by rw [gz_drop]
  obtain ⟨n, hn⟩ := Int.eq_ofNat_of_zero_le (show 0 ≤ gz ys 1 - 2 by omega)
  have hn2 : (gz ys 1).toNat = n + 2 := by omega
  rw [hn2]
  have HO1 : Hid _ := octet_row hS hL.drew h1
  have HO2 : Hid (∀ W, ListW w W R (restV b off ys.length cap 1) N → Calls Try.prog 55 #[.pointer (some ⟨R, 0, none⟩)] W fun e w' => e = .returned (.int .u8 (gz ys 1)) ∧ ListW w w' R (restV b (nxt off cap 1) (ys.length - 1) (cap - 1) 1) N ∧ Only R W w') := fun W hW => by
    have := octet_row hS1 hW (by simp; omega)
    rwa [e1, List.length_drop] at this
  rw [List.length_drop, List.drop_drop] at hS2
  have HO3 : Hid (∀ W, ListW w W R (restV b (nxt off cap 1) (ys.length - 1) (cap - 1) 1) N → _) := fun W hW => run_row hS2 hW n (by simp; omega)
  have hS3 := hS2.rest n (by simp; omega)
  have v1 : IntKind.i64.wrap (gz ys 1 - 2) = gz ys 1 - 2 := wrapi64 _ (by omega)
  obtain ⟨L2, hLn⟩ : ∃ L2, L2 = ys.length - 1 - 1 := ⟨_, rfl⟩
  have hl2 : restV b (nxt off cap 1) (ys.length - 1) (cap - 1) 1 = .slice (some ⟨b, nxt (nxt off cap 1) (cap - 1) 1, none⟩) L2 (cap - 1 - 1) := by rw [hLn]; exact restV_eq ..
  have q1 : decide ((0 : Int) ≤ (n : Int)) = true := by simp
  have q2 : decide (n ≤ L2) = true := by simp; omega
  have q3 : n ≤ L2 := by omega
  have HL2 : Hid _ := hl2
  have hd : BytesAt w.heap.size w (.slice (some ⟨b, nxt (nxt off cap 1) (cap - 1) 1, none⟩) n (cap - 1 - 1)) ((ys.drop 2).take n) := by
    have := piece_at (i := 0) (n := n) (k := cap - 1 - 1) (o := nxt (nxt off cap 1) (cap - 1) 1) hS2.lt hS2.fit hS2.len hS2.cell (by simp; omega) (fun _ => rfl)
    simpa using this
  have HD : Hid _ := hd
  have HS3 : Hid (RowC w (restV b (nxt (nxt off cap 1) (cap - 1) 1) (ys.drop 2).length (cap - 1 - 1) n) (ys.drop (n + 2))) := by
    have := hS3.row
    rw [List.drop_drop] at this
    rwa [Nat.add_comm n 2]
  clear hb hb2 hL hr hS hS1 hS2 hS3 e1 hl2 hd hLn hn2
  rw [hn] at v1
  generalize gz ys 1 = z at *
  generalize gz ys 0 = z0 at *
  go_enter Try.func59, Try.ntmps59
  go_wp2_with fail
  go_region
  go_wp2_with fail
  refine Calls.mono (must_good _ _ _) ?_
  rintro e1 w1 ⟨rfl, hw1⟩
  obtain rfl := hw1.symm
  clear hw1
  go_wp2_with fail
  refine Calls.mono HO1.out ?_
  rintro e2 w2 ⟨rfl, hL2, hO2⟩
  have HO2' : Hid _ := hO2
  clear hO2
  have HL2' : Hid _ := hL2
  clear hL2 c0 c1
  go_wp2_with fail
  refine Calls.mono (HO2.out _ HL2'.out) ?_
  rintro e3 w3 ⟨rfl, hL3, hO3⟩
  have HO3' : Hid _ := hO3
  clear hO3
  have d0 := blk_cell hL3.blk (j := 0) rfl
  rw [HL2.out] at d0
  have HL3 : Hid _ := hL3
  clear hL3
  go_wp2_with fail
  refine Calls.mono (must_good _ _ _) ?_
  rintro e4 w4 ⟨rfl, hw4⟩
  obtain rfl := hw4.symm
  clear hw4
  go_wp2_with fail
  refine Calls.mono (HO3.out _ HL3.out) ?_
  rintro e5 w5 ⟨rfl, hL5, hO5⟩
  have rb5 : w5.heap[W.heap.size]? = some (.cells [.int .u8 0, .slice none 0 0].toArray 76) := by
    have hne : W.heap.size ≠ R := by omega
    exact (hO5.other _ hne).trans ((HO3'.out.other _ hne).trans ((HO2'.out.other _ hne).trans HRB.out))
  have k0 := blk_cell rb5 (j := 0) rfl
  have k1 := blk_cell rb5 (j := 1) rfl
  have f0 := blk_open rb5 0
  have f1 := blk_open rb5 1
  have hBT : But R W w5 := ((HBUT.out.trans (.of_only HO2'.out)).trans (.of_only HO3'.out)).trans (.of_only hO5)
  have hO6 := ((Only.refl W.heap.size w5).set 0 (.int .u8 z0)).set 1 (.slice (some ⟨b, nxt (nxt off cap 1) (cap - 1) 1, none⟩) n (cap - 1 - 1))
  have HBT : Hid _ := hBT.off hO6 (Nat.le_refl _)
  have HL6 : Hid (ListW w ((w5.setCell ⟨W.heap.size, 0, none⟩ (.int .u8 z0)).setCell ⟨W.heap.size, 1, none⟩ (.slice (some ⟨b, nxt (nxt off cap 1) (cap - 1) 1, none⟩) n (cap - 1 - 1))) R _ N) := ⟨(hO6.other R (by omega)).trans hL5.blk, hL5.up, hL5.bel.trans (hO6.below (by have := hL5.up; omega))⟩
  have r0 : ((w5.setCell ⟨W.heap.size, 0, none⟩ (.int .u8 z0)).setCell ⟨W.heap.size, 1, none⟩ (.slice (some ⟨b, nxt (nxt off cap 1) (cap - 1) 1, none⟩) n (cap - 1 - 1))).heap[W.heap.size]? = some (.cells [.int .u8 z0, .slice (some ⟨b, nxt (nxt off cap 1) (cap - 1) 1, none⟩) n (cap - 1 - 1)].toArray 76) := by rw [blk_set (blk_set rb5 0 _) 1 _]; rfl
  have HLV : Hid _ := agg_loadVar (t := 76) Try.isAgg76 Try.sizeOf76 rfl (CellsAt.of_blk r0)
  clear hL5 hO5 hBT hO6 r0 rb5
  go_wp2
  refine bodyPost_ret (res1t rfl rfl HLV.out) rfl ?_
  exact ⟨_, _, rfl, HD.out, HS3.out, by have := HL6.out; rwa [List.length_drop] at this ⊢, HBT.out⟩

end Go.Proofs.Ytmoogfdmlbalbaa

namespace Go.Proofs.Ytmoogfdmlbalbaa
open Go Go.RowKit
set_option linter.unusedVariables false
set_option linter.unusedSimpArgs false

/-- Without the options of one byte that say nothing, at the front. -/
def skipL : List Int → List Int
  | [] => []
  | z :: r => if z = 1 then skipL r else z :: r
theorem skipL_le : ∀ ys : List Int, (skipL ys).length ≤ ys.length
  | [] => Nat.le_refl _
  | z :: r => by
    unfold skipL
    split
    · exact Nat.le_succ_of_le (skipL_le r)
    · exact Nat.le_refl _
def leftLen (W : World) (R : Nat) : Nat := match W.cell? ⟨R, 0, none⟩ with | some (.slice _ n _) => n | _ => 0
theorem ListW.leftLen {w W : World} {R N : Nat} {s : Value} {ys : List Int} (h : ListW w W R s N) (hr : RowC w s ys) : leftLen W R = ys.length := by
  obtain ⟨_, _, a, cap, rfl, _⟩ := hr
  unfold Go.Proofs.Ytmoogfdmlbalbaa.leftLen
  rw [blk_cell h.blk (j := 0) rfl]

theorem box2 {W : World} {Q : Nat} {x0 x1 : Value} (h : W.heap[Q]? = some (.cells [x0, x1].toArray 76)) (y0 y1 : Value) :
    (loadVar 76 ⟨Q, 0, none⟩).run Try.prog ((W.setCell ⟨Q, 0, none⟩ y0).setCell ⟨Q, 1, none⟩ y1) = .ok (.agg #[y0, y1]) ((W.setCell ⟨Q, 0, none⟩ y0).setCell ⟨Q, 1, none⟩ y1) ∧ Only Q W ((W.setCell ⟨Q, 0, none⟩ y0).setCell ⟨Q, 1, none⟩ y1) := by
  have r0 : ((W.setCell ⟨Q, 0, none⟩ y0).setCell ⟨Q, 1, none⟩ y1).heap[Q]? = some (.cells [y0, y1].toArray 76) := by rw [blk_set (blk_set h 0 _) 1 _]; rfl
  exact ⟨agg_loadVar (t := 76) Try.isAgg76 Try.sizeOf76 rfl (CellsAt.of_blk r0), ((Only.refl Q W).set 0 y0).set 1 y1⟩
theorem skipL_cons {z : Int} {r : List Int} (h : z ≠ 1) : skipL (z :: r) = z :: r := by unfold skipL; rw [if_neg h]

/-- What next answers. -/
def NextPost (w W : World) (R N : Nat) (zs : List Int) (e : Ending) (w' : World) : Prop :=
  ((zs = [] ∨ gz zs 0 = 0) ∧ e = .returned (.tuple #[.agg #[.int .u8 0, .slice none 0 0], .bool false]) ∧ Below w.heap.size w w' ∧ But R W w') ∨
  (zs ≠ [] ∧ gz zs 0 ≠ 0 ∧ badO zs ∧ e = .panicked [faultP ((N : Int) - zs.length) 47] ∧ Below w.heap.size w w' ∧ But R W w') ∨
  (zs ≠ [] ∧ gz zs 0 ≠ 0 ∧ ¬ badO zs ∧ ∃ d s', e = .returned (.tuple #[.agg #[.int .u8 (gz zs 0), d], .bool true]) ∧ BytesAt w.heap.size w d ((zs.drop 2).take ((gz zs 1).toNat - 2)) ∧ RowC w s' (zs.drop (gz zs 1).toNat) ∧ ListW w w' R s' N ∧ But R W w')

set_option maxHeartbeats 1000000 in
set_option maxRecDepth 100000 in
theorem next_calls {w W : World} {R N : Nat} {s : Value} {ys : List Int} (hr : RowC w s ys) (hL : ListW w W R s N) (hN : ys.length ≤ N) (hN2 : N ≤ 140737488351232) :
    Calls Try.prog 47 #[.pointer (some ⟨R, 0, none⟩)] W fun e w' => NextPost w W R N (skipL ys) e w' := by
  have hRW : R < W.heap.size := (Array.getElem?_eq_some_iff.1 hL.blk).1
  have HRB : Hid _ := blk_new W (.cells [.int .u8 0, .slice none 0 0].toArray 76)
  have HBUT : Hid (But R W (W.alloc (.cells #[.int .u8 0, .slice none 0 0] 76))) := (But.refl R W).alloc _
  have HL : Hid _ := hL.on ((Below.refl W.heap.size W).alloc (Nat.le_refl _) (.cells #[.int .u8 0, .slice none 0 0] 76))
  have HR : Hid _ := hr
  have HSZ : Hid (w.heap.size ≤ W.heap.size) := hL.bel.size
  have HNE : Hid (W.heap.size ≠ R) := by show W.heap.size ≠ R; omega
  clear hr hL
  go_enter Try.func47, Try.ntmps47
  go_wp2_with fail
  go_loopw [] (fun wr => ∃ zs s', skipL zs = skipL ys ∧ zs.length ≤ N ∧ RowC w s' zs ∧ ListW w wr R s' N ∧ But R W wr ∧ wr.heap[W.heap.size]? = some (.cells [.int .u8 0, .slice none 0 0].toArray 76)) (fun wr => leftLen wr R)
  case atStart => exact ⟨ys, s, rfl, hN, HR.out, HL.out, HBUT.out, HRB.out⟩
  case round =>
    obtain ⟨zs, s', hsk, hzN, hr, hL, hB, hrb⟩ := hrel
    have HLL : Hid _ := hL.leftLen hr
    have c0 := blk_cell hL.blk (j := 0) rfl
    have HBX : Hid _ := box2 hrb
    have b0 := blk_cell hrb (j := 0) rfl
    have b1 := blk_cell hrb (j := 1) rfl
    have f0 := blk_open hrb 0
    have f1 := blk_open hrb 1
    have HLW : Hid _ := hL
    have HRBX : Hid _ := hrb
    have HRW : Hid _ := hr
    have HB : Hid _ := hB
    have HSK : Hid _ := hsk
    have HEND : Hid (zs = [] ∨ gz zs 0 = 0 → NextPost w W R N (skipL ys) (.returned (.tuple #[.agg #[.int .u8 0, .slice none 0 0], .bool false])) ((wr.setCell ⟨W.heap.size, 0, none⟩ (.int .u8 0)).setCell ⟨W.heap.size, 1, none⟩ (.slice none 0 0))) := fun hz => by
      have e : skipL ys = zs := by
        rw [← hsk]
        cases zs with
        | nil => rfl
        | cons z r =>
          refine skipL_cons ?_
          have : gz (z :: r) 0 = z := rfl
          rcases hz with hz | hz
          · cases hz
          · omega
      rw [e]
      have ho := (box2 hrb (.int .u8 0) (.slice none 0 0)).2
      exact .inl ⟨hz, rfl, hL.bel.trans (ho.below HSZ.out), hB.off ho (Nat.le_refl _)⟩
    cases zs with
    | nil =>
      obtain ⟨_, _, a, cap, rfl, _⟩ := hr
      clear hL hrb hB hsk
      go_wp2
      refine bodyPost_ret (res2t rfl rfl (HBX.out _ _).1) rfl ?_
      exact HEND.out (by simp)
    | cons z r =>
      obtain ⟨b, off, cap, hS⟩ := hr.rowS (by simp)
      have hz0 := (hL.bel.cell (p := ⟨b, off, none⟩) hS.lt).trans (hS.cell 0 (by simp))
      rw [show gz (z :: r) 0 = z from rfl] at hz0
      have hzf : 0 ≤ z ∧ z < 256 := hS.fit z (by simp)
      have HS : Hid _ := hS
      rw [hS.val] at c0
      clear hL hrb hB hsk hr hS
      have hlen : ((z :: r).length : Int) = (r.length : Int) + 1 := by simp
      by_cases h0 : z = 0
      · subst h0
        go_wp2
        refine bodyPost_ret (res2t rfl rfl (HBX.out _ _).1) rfl ?_
        exact HEND.out (by simp [gz])
      · by_cases h1 : z = 1
        · subst h1
          have HOC : Hid _ := octet_row HS.out HLW.out (by simp)
          go_wp2_with fail
          refine Calls.mono HOC.out ?_
          rintro _ w2 ⟨rfl, hL2, hO2⟩
          have hS2 := HS.out.rest 1 (by simp)
          have hne := HNE.out
          have HF : Hid ((∃ zs s', skipL zs = skipL ys ∧ zs.length ≤ N ∧ RowC w s' zs ∧ ListW w w2 R s' N ∧ But R W w2 ∧ w2.heap[W.heap.size]? = some (.cells [.int .u8 0, .slice none 0 0].toArray 76)) ∧ leftLen w2 R < leftLen wr R) := by
            refine ⟨⟨r, _, ?_, ?_, hS2.row, hL2, HB.out.trans (.of_only hO2), ?_⟩, ?_⟩
            · have := HSK.out
              rwa [show skipL (1 :: r) = skipL r from rfl] at this
            · simp at hzN; omega
            · exact (hO2.other _ hne).trans HRBX.out
            · rw [HLL.out, hL2.leftLen hS2.row]
              simp
          clear hL2 hO2 hS2 hne
          go_wp2
          exact HF.out
        · have q0 : (z == 0) = false := by simp [h0]
          have q1 : (z == 1) = false := by simp [h1]
          have hsk : skipL ys = z :: r := by have := HSK.out; rw [skipL_cons h1] at this; exact this.symm
          have HK : Hid (skipL ys = z :: r) := hsk
          have hg0 : gz (z :: r) 0 = z := rfl
          by_cases hbad : badO (z :: r)
          · have HO : Hid _ := option_bad HRW.out HLW.out (by simp) hzN hN2 hbad
            have HF : Hid (∀ w2, Below w.heap.size w w2 → But R wr w2 → NextPost w W R N (skipL ys) (.panicked [faultP ((N : Int) - (z :: r).length) 47]) w2) := fun w2 hb hB2 => by
              rw [HK.out]
              exact .inr (.inl ⟨by simp, by rw [hg0]; exact h0, hbad, rfl, hb, HB.out.trans hB2⟩)
            clear hsk h0 h1 hbad hg0
            go_wp2_with fail
            refine Calls.mono HO.out ?_
            rintro _ w2 ⟨rfl, hb2, hB2⟩
            exact ⟨rfl, HF.out w2 hb2 hB2⟩
          · have HO : Hid _ := option_good HRW.out HLW.out (by simp) hzN hN2 hbad
            have HF : Hid (∀ d s' w2, BytesAt w.heap.size w d (((z :: r).drop 2).take ((gz (z :: r) 1).toNat - 2)) → RowC w s' ((z :: r).drop (gz (z :: r) 1).toNat) → ListW w w2 R s' N → But R W w2 → NextPost w W R N (skipL ys) (.returned (.tuple #[.agg #[.int .u8 z, d], .bool true])) w2) := fun d s' w2 h1' h2' h3' h4' => by
              rw [HK.out]
              exact .inr (.inr ⟨by simp, by rw [hg0]; exact h0, hbad, d, s', rfl, h1', h2', h3', h4'⟩)
            clear hsk h0 h1 hbad hg0
            go_wp2_with fail
            refine Calls.mono HO.out ?_
            rintro _ w2 ⟨d, s2, rfl, hd, hr2, hL2, hB2⟩
            have hne := HNE.out
            have rb2 := hB2.blk HRBX.out hne
            have B0 := blk_cell rb2 (j := 0) rfl
            have B1 := blk_cell rb2 (j := 1) rfl
            have F0 := blk_open rb2 0
            have F1 := blk_open rb2 1
            have HX2 : Hid _ := box2 rb2
            have ho := (box2 rb2 (.int .u8 z) d).2
            have HG : Hid (NextPost w W R N (skipL ys) (.returned (.tuple #[.agg #[.int .u8 z, d], .bool true])) ((w2.setCell ⟨W.heap.size, 0, none⟩ (.int .u8 z)).setCell ⟨W.heap.size, 1, none⟩ d)) :=
              HF.out d s2 _ hd hr2 ⟨(ho.other R (Ne.symm hne)).trans hL2.blk, hL2.up, hL2.bel.trans (ho.below HSZ.out)⟩ ((HB.out.trans hB2).off ho (Nat.le_refl _))
            obtain ⟨_, _, da, dc, hde, _⟩ := hd
            generalize (((z :: r).drop 2).take ((gz (z :: r) 1).toNat - 2)).length = dn at hde
            subst hde
            clear hr2 hL2 hB2 rb2 ho HO HF b0 b1 f0 f1 c0
            go_wp2
            refine bodyPost_ret (res2t rfl rfl (HX2.out _ _).1) rfl ?_
            exact HG.out

end Go.Proofs.Ytmoogfdmlbalbaa

namespace Go.Proofs.Ytmoogfdmlbalbaa
open Go Go.RowKit
set_option linter.unusedVariables false
set_option linter.unusedSimpArgs false

instance (ys : List Int) : Decidable (badO ys) := by unfold badO; infer_instance
/-- The options of bytes, and how many bytes are left at the first that is none. -/
def optsF : Nat → List Int → Opts × Option Nat
  | 0, _ => ([], none)
  | f + 1, ys =>
    if skipL ys = [] ∨ gz (skipL ys) 0 = 0 then ([], none) else if badO (skipL ys) then ([], some (skipL ys).length)
    else ((gz (skipL ys) 0, ((skipL ys).drop 2).take ((gz (skipL ys) 1).toNat - 2)) :: (optsF f ((skipL ys).drop (gz (skipL ys) 1).toNat)).1, (optsF f ((skipL ys).drop (gz (skipL ys) 1).toNat)).2)

set_option maxHeartbeats 1000000 in
theorem listed_calls (v : Value) (ys : List Int) (w : World) (h : RowC w v ys) :
    Calls Try.prog 46 #[v] w fun e w' => e = .returned (.pointer (some ⟨w.heap.size, 0, none⟩)) ∧ ListW w w' w.heap.size v ys.length ∧ Below w.heap.size w w' := by
  obtain ⟨_, _, a, cap, rfl, _⟩ := h
  have HB : Hid _ := (Below.refl w.heap.size w).alloc (Nat.le_refl _) (.cells [.slice a ys.length cap, .int .i64 ys.length].toArray 87)
  have HN : Hid _ := blk_new w (.cells [.slice a ys.length cap, .int .i64 ys.length].toArray 87)
  go_enter Try.func46, Try.ntmps46
  go_wp2
  go_ret
  exact ⟨rfl, ⟨HN.out, Nat.le_refl _, HB.out⟩, HB.out⟩

/-- The three results' boxes of Options. -/
structure BoxO (w0 W : World) (Q : Nat) (v : Value) (x y : Int) : Prop where
  vb : W.heap[Q]? = some (.cells [v].toArray 42)
  xb : W.heap[Q + 1]? = some (.cells [.int .i64 x].toArray 3)
  yb : W.heap[Q + 2]? = some (.cells [.int .i64 y].toArray 28)
  bel : Below w0.heap.size w0 W
  up : w0.heap.size ≤ Q
theorem BoxO.on {w0 W W' : World} {Q : Nat} {v : Value} {x y : Int} (h : BoxO w0 W Q v x y) (hb : Below W.heap.size W W') : BoxO w0 W' Q v x y :=
  ⟨blk_on h.vb hb, blk_on h.xb hb, blk_on h.yb hb, h.bel.trans (hb.mono h.bel.size), h.up⟩
theorem BoxO.but {w0 W W' : World} {Q R : Nat} {v : Value} {x y : Int} (h : BoxO w0 W Q v x y) (hb : But R W W') (hR : Q + 2 < R) : BoxO w0 W' Q v x y :=
  ⟨hb.blk h.vb (by omega), hb.blk h.xb (by omega), hb.blk h.yb (by omega), h.bel.trans (hb.below (by have := h.up; omega) h.bel.size), h.up⟩
theorem BoxO.start (w : World) : BoxO w (((w.alloc (.cells #[.slice none 0 0] 42)).alloc (.cells #[.int .i64 0] 3)).alloc (.cells #[.int .i64 0] 28)) w.heap.size (.slice none 0 0) 0 0 := by
  refine ⟨blk_alloc (blk_alloc (blk_new w _) _) _, ?_, ?_, ((((Below.refl w.heap.size w).alloc (Nat.le_refl _) _).alloc (by simp) _).alloc (by simp <;> omega) _), Nat.le_refl _⟩
  · have := blk_alloc (blk_new (w.alloc (.cells #[.slice none 0 0] 42)) (.cells #[.int .i64 0] 3)) (.cells #[.int .i64 0] 28)
    rwa [show (w.alloc (.cells #[.slice none 0 0] 42)).heap.size = w.heap.size + 1 by simp] at this
  · have := blk_new ((w.alloc (.cells #[.slice none 0 0] 42)).alloc (.cells #[.int .i64 0] 3)) (.cells #[.int .i64 0] 28)
    rwa [show ((w.alloc (.cells #[.slice none 0 0] 42)).alloc (.cells #[.int .i64 0] 3)).heap.size = w.heap.size + 2 by simp] at this

/-- The cells of a row of options. -/
def cellsL : Opts → List Value → List Value
  | [], _ => []
  | o :: os, ds => .int .u8 o.1 :: ds.headD undef :: cellsL os ds.tail
theorem cellsL_length : ∀ (os : Opts) (ds : List Value), (cellsL os ds).length = os.length * 2
  | [], _ => rfl
  | o :: os, ds => by simp [cellsL, cellsL_length os ds.tail]; omega
theorem cellsL_push : ∀ (os : Opts) (ds : List Value) (K : Int) (D : List Int) (u : Value), ds.length = os.length → cellsL (os ++ [(K, D)]) (ds ++ [u]) = cellsL os ds ++ [.int .u8 K, u]
  | [], [], K, D, u, _ => rfl
  | o :: os, d :: ds, K, D, u, h => by
    have := cellsL_push os ds K D u (by simpa using h)
    simp [cellsL, this]
theorem cellsL_at : ∀ (os : Opts) (ds : List Value) (j : Nat), j < os.length → (cellsL os ds)[j * 2]? = some (.int .u8 (oK os j)) ∧ (cellsL os ds)[j * 2 + 1]? = some (ds[j]?.getD undef)
  | o :: os, ds, 0, _ => by cases ds <;> simp [cellsL, oK]
  | o :: os, ds, j + 1, h => by
    have := cellsL_at os ds.tail j (by simpa using h)
    rw [show (j + 1) * 2 = j * 2 + 1 + 1 by omega, show j * 2 + 1 + 1 + 1 = (j * 2 + 1) + 1 + 1 by omega]
    refine ⟨?_, ?_⟩
    · simp only [cellsL, List.getElem?_cons_succ]
      rw [this.1]
      simp [oK]
    · simp only [cellsL, List.getElem?_cons_succ]
      rw [this.2]
      cases ds <;> simp

/-- A row of options of one's own: its block and those of its data lie from 'base' on and below 'top'. -/
structure OptRow (base top : Nat) (W : World) (v : Value) (os : Opts) (ds : List Value) : Prop where
  own : W.ownsRow base 76 2 v os.length (cellsL os ds)
  dl : ds.length = os.length
  fit : ∀ j, 0 ≤ oK os j ∧ oK os j < 256
  gl : ∀ g, v.ownBlock = some g → g < top
  dat : ∀ j, j < os.length → BytesAt W.heap.size W (ds[j]?.getD undef) (oD os j) ∧ ((oD os j).length = 0 ∨ ∃ b off n k, ds[j]?.getD undef = .slice (some ⟨b, off, none⟩) n k ∧ base ≤ b ∧ b < top ∧ v.ownBlock ≠ some b)
theorem bytes_keep {W W' : World} {v : Value} {zs : List Int} (h : BytesAt W.heap.size W v zs) (hl : zs.length = 0 ∨ ∃ b off n k, v = .slice (some ⟨b, off, none⟩) n k ∧ b < W'.heap.size ∧ W'.heap[b]? = W.heap[b]?) : BytesAt W'.heap.size W' v zs := by
  obtain ⟨hf, hle, a, cap, rfl, hz⟩ := h
  refine ⟨hf, hle, a, cap, rfl, ?_⟩
  rcases hz with hz | ⟨b, off, rfl, hlt, hc⟩
  · exact .inl hz
  · rcases hl with hl | ⟨b', off', n, k, e, hs, hb⟩
    · exact .inl hl
    · cases e
      refine .inr ⟨b, off, rfl, hs, fun j hj => ?_⟩
      rw [← hc j hj]
      simp [World.cell?, hb]
theorem OptRow.keep {base top : Nat} {W W' : World} {v : Value} {os : Opts} {ds : List Value} (h : OptRow base top W v os ds) (ht : top ≤ W.heap.size) (hs : W.heap.size ≤ W'.heap.size) (hk : ∀ j, base ≤ j → j < top → W'.heap[j]? = W.heap[j]?) : OptRow base top W' v os ds := by
  refine ⟨⟨h.own.1, ?_⟩, h.dl, h.fit, h.gl, fun j hj => ⟨?_, (h.dat j hj).2⟩⟩
  · rcases h.own.2 with h0 | ⟨g, cap, cur, rfl, hb, hg, r⟩
    · exact .inl h0
    · exact .inr ⟨g, cap, cur, rfl, hb, (hk g hb (h.gl g rfl)).trans hg, r⟩
  · obtain ⟨h1, h2⟩ := h.dat j hj
    refine bytes_keep h1 (h2.imp id ?_)
    rintro ⟨b, off, n, k, e, hb, ht', _⟩
    exact ⟨b, off, n, k, e, by omega, hk b hb ht'⟩
theorem OptRow.top {base top top' : Nat} {W : World} {v : Value} {os : Opts} {ds : List Value} (h : OptRow base top W v os ds) (ht : top ≤ top') : OptRow base top' W v os ds :=
  ⟨h.own, h.dl, h.fit, fun g hg => Nat.lt_of_lt_of_le (h.gl g hg) ht, fun j hj => ⟨(h.dat j hj).1, (h.dat j hj).2.imp id (fun ⟨b, off, n, k, e, h1, h2, h3⟩ => ⟨b, off, n, k, e, h1, Nat.lt_of_lt_of_le h2 ht, h3⟩)⟩⟩
theorem OptRow.nil (base top : Nat) (W : World) : OptRow base top W (.slice none 0 0) [] [] :=
  ⟨World.ownsRow_nil _ _ _ _, rfl, (fun j => by simp [oK]), (fun g hg => by cases hg), (fun j hj => by simp at hj)⟩
theorem OptRow.opts {base top : Nat} {W : World} {v : Value} {os : Opts} {ds : List Value} (h : OptRow base top W v os ds) (hl : os.length ≤ 140737488351232) : OptsAt W.heap.size W v os := by
  refine ⟨h.fit, hl, ?_⟩
  rcases h.own.2 with ⟨rfl, h0⟩ | ⟨g, cap, cur, rfl, hb, hg, _⟩
  · exact ⟨none, 0, by rw [h0], .inl h0⟩
  · refine ⟨_, cap, rfl, .inr ⟨g, 0, rfl, (Array.getElem?_eq_some_iff.1 hg).1, fun j hj => ?_⟩⟩
    have hc := cellsL_at os ds j hj
    have c0 := h.own.cells (g := g) rfl _ _ hc.1
    have c1 := h.own.cells (g := g) rfl _ _ hc.2
    rw [Go.WideShapes.add_plain] at c0 c1
    exact ⟨by simpa using c0, _, by simpa [Nat.add_assoc] using c1, (h.dat j hj).1⟩

theorem opt_info : (Try.prog.info? 76).map (fun i => (i.zero, i.size, i.bytes)) = some (some (.agg #[.int .u8 0, .slice none 0 0]), 2, 32) := by kernel_rfl
theorem OptRow.push {base top : Nat} {W : World} {v : Value} {os : Opts} {ds : List Value} (h : OptRow base top W v os ds) (ht : top ≤ W.heap.size) (hbase : base ≤ W.heap.size) {X : Nat} {K : Int} {u : Value} {D : List Int} (hX0 : W.cell? ⟨X, 0, none⟩ = some (.int .u8 K)) (hX1 : W.cell? ⟨X, 1, none⟩ = some u) (hK : 0 ≤ K ∧ K < 256)
    (hu : BytesAt W.heap.size W u D) (hl : D.length = 0 ∨ ∃ b off n k, u = .slice (some ⟨b, off, none⟩) n k ∧ base ≤ b ∧ b < W.heap.size ∧ v.ownBlock ≠ some b) (hn : os.length ≤ 1048576) (c : Nat) (ty : TypeId) :
    ∃ v' W', (Builtin.append_ #[42, 42] ty #[v, .slice (some ⟨X, 0, none⟩) 1 c]).run Try.prog W = .ok v' W' ∧ OptRow base W'.heap.size W' v' (os ++ [(K, D)]) (ds ++ [u]) ∧ W.grownBy W' v.ownBlock ∧ (∃ x n k, v' = .slice x n k) := by
  obtain ⟨i, hi, hz, hs, hby⟩ := info_parts opt_info
  have hone : u.oneCell' = true := by obtain ⟨_, _, a, k, rfl, _⟩ := hu; rfl
  have hnews : ∀ j w, ([.int .u8 K, u] : List Value)[j]? = some w → W.cell? ((⟨X, 0, none⟩ : Addr).add j) = some w := by
    intro j w hj
    rw [Go.WideShapes.add_plain]
    match j, hj with
    | 0, hj => simp at hj; subst hj; exact hX0
    | 1, hj => simp at hj; subst hj; exact hX1
    | j + 2, hj => simp at hj
  have hall1 : ∀ w ∈ ([.int .u8 K, u] : List Value), w.oneCell' = true := by
    intro w hw
    simp only [List.mem_cons, List.not_mem_nil, or_false] at hw
    rcases hw with rfl | rfl
    · rfl
    · exact hone
  have h63 : os.length + 1 ≤ maxLen := by unfold maxLen; omega
  have hbb : (os.length + 1) * 32 ≤ 140737488355328 := by omega
  obtain ⟨v', W', hrun, r1, r2, _⟩ := run_append_own (P := Try.prog) W base 42 ty 76 i _ 2 32 Try.underlying42 hi hz hs hby rfl (by decide) v os.length _ h.own ⟨X, 0, none⟩ 1 c [.int .u8 K, u] rfl hnews hall1 h63 hbb hbase
  have hfresh : v'.ownBlock = v.ownBlock ∨ ∀ k, v'.ownBlock = some k → W.heap.size ≤ k := by
    rcases h.own.2 with ⟨rfl, h0⟩ | ⟨g, cap, cur, rfl, hbg, hg, hnc, hcm, hcs, htake⟩
    · have ho : W.ownsRow W.heap.size 76 2 (.slice none 0 0) os.length (cellsL os ds) := by
        have hos : os = [] := List.length_eq_zero_iff.1 h0
        rw [hos]
        exact World.ownsRow_nil _ _ _ _
      obtain ⟨v2, w2, hrun2, q1, _, _⟩ := run_append_own (P := Try.prog) W W.heap.size 42 ty 76 i _ 2 32 Try.underlying42 hi hz hs hby rfl (by decide) _ os.length _ ho ⟨X, 0, none⟩ 1 c [.int .u8 K, u] rfl hnews hall1 h63 hbb (Nat.le_refl _)
      rw [hrun] at hrun2
      cases hrun2
      exact .inr (fun k hk => (q1.lt k hk).1)
    · by_cases hroom : os.length + 1 ≤ cap
      · have hr := run_append_room (P := Try.prog) W 42 ty 76 i Try.underlying42 hi g os.length cap cur hg ⟨X, 0, none⟩ 1 c [.int .u8 K, u] (by rw [hs]; rfl) hnews hall1 hroom (by rw [hs]; simp; omega)
        rw [hrun] at hr
        cases hr
        exact .inl rfl
      · have holds : ∀ (j : Nat) u, (cellsL os ds)[j]? = some u → W.cell? ((⟨g, 0, none⟩ : Addr).add j) = some u := h.own.cells (g := g) rfl
        have hr := run_append_grow (P := Try.prog) W 42 ty 76 i _ Try.underlying42 hi hz ⟨g, 0, none⟩ os.length cap (cellsL os ds) (by rw [hs]; exact h.own.1) holds ⟨X, 0, none⟩ 1 c [.int .u8 K, u] (by rw [hs]; rfl) hnews (by omega) (by unfold maxLen at h63; omega) (growslice_fits (by omega) (by rw [hby]; exact hbb))
        rw [hrun] at hr
        cases hr
        exact .inr (fun k hk => by simp [Value.ownBlock] at hk; omega)
  have hK' : ∀ j, 0 ≤ oK (os ++ [(K, D)]) j ∧ oK (os ++ [(K, D)]) j < 256 := fun j => by
    by_cases hj : j < os.length
    · have := h.fit j
      simpa [oK, List.getElem?_append, hj] using this
    · by_cases e : j = os.length
      · subst e; simpa [oK] using hK
      · have : (os ++ [(K, D)])[j]? = none := List.getElem?_eq_none (by simp; omega)
        simp [oK, this]
  have hdat : ∀ j, j < os.length + 1 → BytesAt W.heap.size W ((ds ++ [u])[j]?.getD undef) (oD (os ++ [(K, D)]) j) ∧ ((oD (os ++ [(K, D)]) j).length = 0 ∨ ∃ b off n k, (ds ++ [u])[j]?.getD undef = .slice (some ⟨b, off, none⟩) n k ∧ base ≤ b ∧ b < W.heap.size ∧ v.ownBlock ≠ some b) := fun j hj => by
    have hdl := h.dl
    by_cases hj2 : j < os.length
    · obtain ⟨h1, h2⟩ := h.dat j hj2
      have e1 : (ds ++ [u])[j]? = ds[j]? := List.getElem?_append_left (by omega)
      have e2 : oD (os ++ [(K, D)]) j = oD os j := by simp [oD, List.getElem?_append, hj2]
      rw [e1, e2]
      exact ⟨h1, h2.imp id (fun ⟨b, off, n, k, e, q1, q2, q3⟩ => ⟨b, off, n, k, e, q1, by omega, q3⟩)⟩
    · obtain rfl : j = os.length := by omega
      have e1 : (ds ++ [u])[os.length]? = some u := by rw [← hdl]; simp
      have e2 : oD (os ++ [(K, D)]) os.length = D := by simp [oD]
      rw [e1, e2]
      exact ⟨hu, hl⟩
  refine ⟨v', W', hrun, ⟨?_, by simp [h.dl], hK', fun g hg => (r1.lt g hg).2, fun j hj => ?_⟩, r2, ?_⟩
  · rw [cellsL_push os ds K D u h.dl]
    simpa using r1
  · obtain ⟨h1, h2⟩ := hdat j (by simpa using hj)
    refine ⟨bytes_keep h1 (h2.imp id ?_), h2.imp id ?_⟩
    · rintro ⟨b, off, n, k, e, q1, q2, q3⟩
      exact ⟨b, off, n, k, e, Nat.lt_of_lt_of_le q2 r2.size, r2.block b q2 (fun e => q3 e.symm)⟩
    · rintro ⟨b, off, n, k, e, q1, q2, q3⟩
      refine ⟨b, off, n, k, e, q1, Nat.lt_of_lt_of_le q2 r2.size, ?_⟩
      rcases hfresh with hf | hf
      · rw [hf]; exact q3
      · intro e'
        have := hf b e'
        omega
  · rcases r1.2 with ⟨e, _⟩ | ⟨g, cap, cur, e, _⟩
    · exact ⟨_, _, _, e⟩
    · exact ⟨_, _, _, e⟩

end Go.Proofs.Ytmoogfdmlbalbaa

namespace Go.Proofs.Ytmoogfdmlbalbaa
open Go Go.RowKit
set_option linter.unusedVariables false
set_option linter.unusedSimpArgs false

theorem BoxO.setV {w0 W : World} {Q : Nat} {v : Value} {x y : Int} (h : BoxO w0 W Q v x y) (u : Value) : BoxO w0 (W.setCell ⟨Q, 0, none⟩ u) Q u x y :=
  ⟨by rw [blk_set h.vb]; rfl, blk_set_other h.xb (by omega) _ _, blk_set_other h.yb (by omega) _ _, h.bel.setCell (by have := h.up; simp; omega) _, h.up⟩
theorem BoxO.setX {w0 W : World} {Q : Nat} {v : Value} {x y : Int} (h : BoxO w0 W Q v x y) (z : Int) : BoxO w0 (W.setCell ⟨Q + 1, 0, none⟩ (.int .i64 z)) Q v z y :=
  ⟨blk_set_other h.vb (by omega) _ _, by rw [blk_set h.xb]; rfl, blk_set_other h.yb (by omega) _ _, h.bel.setCell (by have := h.up; simp; omega) _, h.up⟩
theorem BoxO.setY {w0 W : World} {Q : Nat} {v : Value} {x y : Int} (h : BoxO w0 W Q v x y) (z : Int) : BoxO w0 (W.setCell ⟨Q + 2, 0, none⟩ (.int .i64 z)) Q v x z :=
  ⟨blk_set_other h.vb (by omega) _ _, blk_set_other h.xb (by omega) _ _, by rw [blk_set h.yb]; rfl, h.bel.setCell (by have := h.up; simp; omega) _, h.up⟩
theorem BoxO.drew {w0 W : World} {Q : Nat} {v : Value} {x y : Int} (h : BoxO w0 W Q v x y) : BoxO w0 W.drew Q v x y := ⟨h.vb, h.xb, h.yb, h.bel.drew, h.up⟩

theorem tmps15 (a b c : Value) : (#[a, b, c] ++ Array.replicate (15 - #[a, b, c].size) undef : Array Value) = #[a, b, c, undef, undef, undef, undef, undef, undef, undef, undef, undef, undef, undef, undef] := rfl

set_option maxHeartbeats 2000000 in
set_option maxRecDepth 100000 in
theorem catch_idleO (p q r : Addr) (w : World) :
    CallsD Try.prog 45 #[.pointer (some p), .pointer (some q), .pointer (some r)] .returning w fun e u' w' => e = .returned (.tuple #[]) ∧ u' = .returning ∧ Below w.heap.size w w' := by
  have hB := ((Below.refl w.heap.size w).alloc (Nat.le_refl _) (.cells #[.int .i64 0, .int .i64 0] 59))
  have ht := ta_no w
  refine callsD_of_wpS Try.func45 rfl fun c₀ cs hu => ?_
  apply wpS_seq
  refine wpS_region_rec (v := .nilIface) (cs' := c₀ :: cs) rfl rfl (by simp [recoverD, hu]) ?_
  simp only [Try.ntmps45, tmps15, Act.put, List.setIfInBounds_toArray, List.set_cons_zero, List.set_cons_succ]
  go_wp2
  refine wpS_of_wp ?_
  go_wp2
  cases c₀
  simp_all [bodyPostS, results, Try.results45]

set_option maxHeartbeats 2000000 in
set_option maxRecDepth 100000 in
theorem catch_faultO (w0 : World) (Q : Nat) (v : Value) (x y at' e : Int) (w : World) (h : BoxO w0 w Q v x y) :
    CallsD Try.prog 45 #[.pointer (some ⟨Q, 0, none⟩), .pointer (some ⟨Q + 1, 0, none⟩), .pointer (some ⟨Q + 2, 0, none⟩)] (.panicking [{ v := .iface 59 (.agg #[.int .i64 at', .int .i64 e]), recovered := false }]) w fun e' u' w' => e' = .returned (.tuple #[]) ∧ u' = .panicking [{ v := .iface 59 (.agg #[.int .i64 at', .int .i64 e]), recovered := true }] ∧ BoxO w0 w' Q (.slice none 0 0) at' e := by
  have ht := ta_yes (.agg #[.int .i64 at', .int .i64 e]) w
  refine callsD_of_wpS Try.func45 rfl fun c₀ cs hu => ?_
  apply wpS_seq
  refine wpS_region_rec (v := .iface 59 (.agg #[.int .i64 at', .int .i64 e])) (cs' := { c₀ with mode := .panicking [{ v := .iface 59 (.agg #[.int .i64 at', .int .i64 e]), recovered := true }] } :: cs) rfl rfl (by simp [recoverD, hu]) ?_
  simp only [Try.ntmps45, tmps15, Act.put, List.setIfInBounds_toArray, List.set_cons_zero, List.set_cons_succ]
  go_wp2
  refine wpS_of_wp ?_
  go_wp2
  have h1 := h.on ((Below.refl w.heap.size w).alloc (Nat.le_refl _) (.cells #[.int .i64 at', .int .i64 e] 59))
  have fb := blk_new w (.cells [.int .i64 at', .int .i64 e].toArray 59)
  have hne : Q + 2 < w.heap.size := (Array.getElem?_eq_some_iff.1 h.yb).1
  clear ht h
  generalize w.alloc (.cells #[.int .i64 at', .int .i64 e] 59) = W1 at *
  generalize w.heap.size = F at *
  have k0 := blk_cell fb (j := 0) rfl
  have k1 := blk_cell fb (j := 1) rfl
  have hq0 : ¬ F = Q := by omega
  have hq1 : ¬ F = Q + 1 := by omega
  have hq2 : ¬ F = Q + 2 := by omega
  have HE : Hid _ := (((h1.setV (.slice none 0 0)).setX at').setY e).drew
  have m0 := blk_cell h1.vb (j := 0) rfl
  have n0 := blk_open h1.vb 0
  have m1 := blk_cell h1.xb (j := 0) rfl
  have n1 := blk_open h1.xb 0
  have m2 := blk_cell h1.yb (j := 0) rfl
  have n2 := blk_open h1.yb 0
  clear h1 hne fb
  go_region
  all_goals exact ⟨rfl, _, rfl, _, results_none rfl _ _ _, rfl, rfl, HE.out⟩

theorem BoxO.load {w0 W : World} {Q : Nat} {v : Value} {x y : Int} (h : BoxO w0 W Q v x y) (hv : ∃ a n k, v = .slice a n k) : (loadVar 42 ⟨Q, 0, none⟩).run Try.prog W = .ok v W := by
  obtain ⟨a, n, k, rfl⟩ := hv
  have := blk_cell h.vb (j := 0) rfl
  simp [loadVar, go_sem, this]
theorem BoxO.loadX {w0 W : World} {Q : Nat} {v : Value} {x y : Int} (h : BoxO w0 W Q v x y) : (loadVar 3 ⟨Q + 1, 0, none⟩).run Try.prog W = .ok (.int .i64 x) W := by
  have := blk_cell h.xb (j := 0) rfl
  simp [loadVar, go_sem, this]
theorem BoxO.loadY {w0 W : World} {Q : Nat} {v : Value} {x y : Int} (h : BoxO w0 W Q v x y) : (loadVar 28 ⟨Q + 2, 0, none⟩).run Try.prog W = .ok (.int .i64 y) W := by
  have := blk_cell h.yb (j := 0) rfl
  simp [loadVar, go_sem, this]

end Go.Proofs.Ytmoogfdmlbalbaa

namespace Go.Proofs.Ytmoogfdmlbalbaa
open Go Go.RowKit
set_option linter.unusedVariables false
set_option linter.unusedSimpArgs false

section
variable {f : Nat} {rest : List Int}
theorem optsF_fin (h : skipL rest = [] ∨ gz (skipL rest) 0 = 0) : optsF f rest = ([], none) := by
  cases f with
  | zero => rfl
  | succ f => rw [optsF, if_pos h]
theorem optsF_bad (h : ¬ (skipL rest = [] ∨ gz (skipL rest) 0 = 0)) (hb : badO (skipL rest)) : optsF (f + 1) rest = ([], some (skipL rest).length) := by rw [optsF, if_neg h, if_pos hb]
theorem optsF_opt (h : ¬ (skipL rest = [] ∨ gz (skipL rest) 0 = 0)) (hb : ¬ badO (skipL rest)) : optsF (f + 1) rest = ((gz (skipL rest) 0, ((skipL rest).drop 2).take ((gz (skipL rest) 1).toNat - 2)) :: (optsF f ((skipL rest).drop (gz (skipL rest) 1).toNat)).1, (optsF f ((skipL rest).drop (gz (skipL rest) 1).toNat)).2) := by rw [optsF, if_neg h, if_neg hb]
theorem skipL_mem : ∀ (ys : List Int) (z : Int), z ∈ skipL ys → z ∈ ys
  | [], z, h => h
  | y :: r, z, h => by
    unfold skipL at h
    split at h
    · exact List.mem_cons_of_mem _ (skipL_mem r z h)
    · exact h
theorem drop_less (h : ¬ badO (skipL rest)) : ((skipL rest).drop (gz (skipL rest) 1).toNat).length + 2 ≤ rest.length := by
  have := skipL_le rest
  unfold badO at h
  simp
  omega
end
/-- What Options answers. -/
def OptsIs (ys : List Int) (os : Opts) (at' er : Int) : Prop :=
  ((optsF (ys.length + 1) ys).2 = none ∧ os = (optsF (ys.length + 1) ys).1 ∧ at' = 0 ∧ er = 0) ∨ (∃ m, (optsF (ys.length + 1) ys).2 = some m ∧ os = [] ∧ at' = (ys.length : Int) - (m : Nat) ∧ er = 47)
def OptsPost (ys : List Int) (w : World) (e : Ending) (w' : World) : Prop :=
  ∃ v os at' er, e = .returned (.tuple #[v, .int .i64 at', .int .i64 er]) ∧ OptsAt w'.heap.size w' v os ∧ Below w.heap.size w w' ∧ OptsIs ys os at' er
/-- How far the options are read: those that are in the row, and the bytes that are left. -/
structure PreO (ys : List Int) (os : Opts) (rest : List Int) (f : Nat) : Prop where
  eq : optsF (ys.length + 1) ys = (os ++ (optsF f rest).1, (optsF f rest).2)
  fuel : rest.length < f
  len : os.length + rest.length ≤ ys.length
theorem PreO.start (ys : List Int) : PreO ys [] ys (ys.length + 1) := ⟨rfl, by omega, by simp⟩
theorem PreO.next {ys : List Int} {os : Opts} {rest : List Int} {f : Nat} (h : PreO ys os rest f) (h1 : ¬ (skipL rest = [] ∨ gz (skipL rest) 0 = 0)) (hb : ¬ badO (skipL rest)) :
    PreO ys (os ++ [(gz (skipL rest) 0, ((skipL rest).drop 2).take ((gz (skipL rest) 1).toNat - 2))]) ((skipL rest).drop (gz (skipL rest) 1).toNat) (f - 1) := by
  have hl := drop_less hb
  have hf := h.fuel
  have hn := h.len
  obtain ⟨g, rfl⟩ : ∃ g, f = g + 1 := ⟨f - 1, by omega⟩
  refine ⟨?_, by simp at hl ⊢; omega, by simp at hl ⊢; omega⟩
  rw [h.eq, optsF_opt h1 hb]
  simp
theorem PreO.fin {ys : List Int} {os : Opts} {rest : List Int} {f : Nat} (h : PreO ys os rest f) (h1 : skipL rest = [] ∨ gz (skipL rest) 0 = 0) : OptsIs ys os 0 0 := by
  have := h.eq
  rw [optsF_fin h1] at this
  refine .inl ⟨by rw [this], by rw [this]; simp, rfl, rfl⟩
theorem PreO.bad {ys : List Int} {os : Opts} {rest : List Int} {f : Nat} (h : PreO ys os rest f) (h1 : ¬ (skipL rest = [] ∨ gz (skipL rest) 0 = 0)) (hb : badO (skipL rest)) : OptsIs ys [] ((ys.length : Int) - (skipL rest).length) 47 := by
  have hf := h.fuel
  obtain ⟨g, rfl⟩ : ∃ g, f = g + 1 := ⟨f - 1, by omega⟩
  have := h.eq
  rw [optsF_bad h1 hb] at this
  exact .inr ⟨(skipL rest).length, by rw [this], rfl, rfl, rfl⟩

/-- The loop's state. -/
def LoopO (w : World) (R : Nat) (ys : List Int) (o m : Value) (wr : World) : Prop :=
  ∃ os ds v O, o = .pointer (some ⟨O, 0, none⟩) ∧ BoxO w wr w.heap.size v 0 0 ∧ OptRow (R + 1) O wr v os ds ∧ R + 1 ≤ O ∧ O < wr.heap.size ∧ os.length ≤ ys.length ∧ (∃ a n k, v = .slice a n k) ∧
    ((m = .bool false ∧ OptsIs ys os 0 0) ∨
     (m = .bool true ∧ ∃ K d D rest s f, wr.heap[O]? = some (.cells [.int .u8 K, d].toArray 76) ∧ (0 ≤ K ∧ K < 256) ∧ BytesAt w.heap.size w d D ∧ RowC w s rest ∧ ListW w wr R s ys.length ∧ PreO ys (os ++ [(K, D)]) rest f))
def measO (R : Nat) (m : Value) (wr : World) : Nat := match m with | .bool true => leftLen wr R + 1 | _ => 0

theorem OptRow.setc {base top : Nat} {W : World} {v : Value} {os : Opts} {ds : List Value} (h : OptRow base top W v os ds) (ht : top ≤ W.heap.size) {X : Nat} (hX : X < base ∨ top ≤ X) (i : Nat) (u : Value) : OptRow base top (W.setCell ⟨X, i, none⟩ u) v os ds := by
  have ho := (Only.refl X W).set i u
  exact h.keep ht (by rw [ho.size]; exact Nat.le_refl _) (fun j h1 h2 => ho.other j (by omega))
theorem OptRow.on {base top : Nat} {W W' : World} {v : Value} {os : Opts} {ds : List Value} (h : OptRow base top W v os ds) (ht : top ≤ W.heap.size) (hb : Below W.heap.size W W') : OptRow base top W' v os ds :=
  h.keep ht hb.size (fun j _ h2 => hb.block j (by omega))
theorem OptRow.but {base top R : Nat} {W W' : World} {v : Value} {os : Opts} {ds : List Value} (h : OptRow base top W v os ds) (ht : top ≤ W.heap.size) (hb : But R W W') (hR : R < base) : OptRow base top W' v os ds :=
  h.keep ht hb.size (fun j h1 h2 => hb.other j (by omega) (by omega))
theorem loc_both {W : World} {u : Value} {D : List Int} {s : Nat} (h : BytesAt W.heap.size W u D) (hl : D.length = 0 ∨ ∃ b off n k, u = .slice (some ⟨b, off, none⟩) n k ∧ s ≤ b) : D.length = 0 ∨ ∃ b off n k, u = .slice (some ⟨b, off, none⟩) n k ∧ s ≤ b ∧ b < W.heap.size := by
  rcases hl with hl | ⟨b, off, n, k, rfl, hs⟩
  · exact .inl hl
  · obtain ⟨_, _, a, cap, e, hz⟩ := h
    rcases hz with hz | ⟨b', off', rfl, hlt, _⟩
    · exact .inl hz
    · cases e
      exact .inr ⟨_, _, _, _, rfl, hs, hlt⟩
theorem BoxO.same {w0 W W' : World} {Q : Nat} {v : Value} {x y : Int} (h : BoxO w0 W Q v x y) (hb : Below w0.heap.size W W') (hk : ∀ j, j ≤ Q + 2 → W'.heap[j]? = W.heap[j]?) : BoxO w0 W' Q v x y :=
  ⟨(hk Q (by omega)).trans h.vb, (hk (Q + 1) (by omega)).trans h.xb, (hk (Q + 2) (by omega)).trans h.yb, h.bel.trans hb, h.up⟩
def NxO (w w' : World) (R N : Nat) (rest : List Int) (K : Int) (d : Value) (m : Bool) : Prop :=
  (m = false ∧ (skipL rest = [] ∨ gz (skipL rest) 0 = 0)) ∨
  (m = true ∧ ¬ (skipL rest = [] ∨ gz (skipL rest) 0 = 0) ∧ ¬ badO (skipL rest) ∧ K = gz (skipL rest) 0 ∧ BytesAt w.heap.size w d (((skipL rest).drop 2).take ((gz (skipL rest) 1).toNat - 2)) ∧ ∃ s', RowC w s' ((skipL rest).drop (gz (skipL rest) 1).toNat) ∧ ListW w w' R s' N)
theorem NextPost.split {w W w' : World} {R N : Nat} {rest : List Int} {e : Ending} (h : NextPost w W R N (skipL rest) e w') (hu : w.heap.size ≤ R) (hw : Below w.heap.size w W) :
    (¬ (skipL rest = [] ∨ gz (skipL rest) 0 = 0) ∧ badO (skipL rest) ∧ e = .panicked [faultP ((N : Int) - (skipL rest).length) 47] ∧ Below w.heap.size w w' ∧ But R W w') ∨
    (∃ K da dn dc m, e = .returned (.tuple #[.agg #[.int .u8 K, .slice da dn dc], .bool m]) ∧ Below w.heap.size w w' ∧ But R W w' ∧ NxO w w' R N rest K (.slice da dn dc) m) := by
  rcases h with ⟨hz, rfl, hb2, hB2⟩ | ⟨hz1, hz2, hbad, rfl, hb2, hB2⟩ | ⟨hz1, hz2, hgood, d, s', rfl, hd, hr2, hL2, hB2⟩
  · exact .inr ⟨0, none, 0, 0, false, rfl, hb2, hB2, .inl ⟨rfl, hz⟩⟩
  · exact .inl ⟨fun c => c.elim hz1 hz2, hbad, rfl, hb2, hB2⟩
  · have hd' := hd
    obtain ⟨_, _, da, dc, hde, _⟩ := hd
    subst hde
    exact .inr ⟨_, _, _, _, true, rfl, hL2.bel, hB2, .inr ⟨rfl, fun c => c.elim hz1 hz2, hgood, rfl, hd', s', hr2, hL2⟩⟩
theorem LoopO.of_next {w W : World} {R : Nat} {ys rest : List Int} {os : Opts} {ds : List Value} {v : Value} {f O : Nat} {K : Int} {d : Value} {m : Bool} (hB : BoxO w W w.heap.size v 0 0) (hR : OptRow (R + 1) O W v os ds) (h1 : R + 1 ≤ O) (h2 : O < W.heap.size) (hv : ∃ a n k, v = .slice a n k) (hP : PreO ys os rest f) (hO : W.heap[O]? = some (.cells [.int .u8 K, d].toArray 76)) (hf : Fit rest) (hN : NxO w W R ys.length rest K d m) :
    LoopO w R ys (.pointer (some ⟨O, 0, none⟩)) (.bool m) W := by
  refine ⟨os, ds, v, O, rfl, hB, hR, h1, h2, by have := hP.len; omega, hv, ?_⟩
  rcases hN with ⟨rfl, hz⟩ | ⟨rfl, hz, hb, rfl, hd, s', hr, hL⟩
  · exact .inl ⟨rfl, hP.fin hz⟩
  · refine .inr ⟨rfl, _, d, _, _, s', _, hO, ?_, hd, hr, hL, hP.next hz hb⟩
    have : Fit (skipL rest) := fun z hz => hf z (skipL_mem _ _ hz)
    exact this.gz 0

set_option maxHeartbeats 1000000 in
set_option maxRecDepth 100000 in
theorem Options_calls (v : Value) (ys : List Int) (w : World) (h : RowC w v ys) (hl : ys.length ≤ 1048576) :
    Calls Try.prog 26 #[v] w fun e w' => OptsPost ys w e w' := by
  have hmf : ∀ (fn : Fn) (first cap : Array Value) (w : World), (Instr.makeFunc fn first cap).run Try.prog w = .ok (.func fn first cap) w := fun _ _ _ _ => rfl
  have hBX := BoxO.start w
  have HLI : Hid _ := listed_calls v ys _ (h.on hBX.bel)
  have HBX : Hid _ := hBX
  have HR0 : Hid _ := h
  clear hBX h
  rw [show (((w.alloc (.cells #[.slice none 0 0] 42)).alloc (.cells #[.int .i64 0] 3)).alloc (.cells #[.int .i64 0] 28)).heap.size = w.heap.size + 1 + 1 + 1 by simp] at HLI
  generalize hW0 : ((w.alloc (.cells #[.slice none 0 0] 42)).alloc (.cells #[.int .i64 0] 3)).alloc (.cells #[.int .i64 0] 28) = W0 at *
  go_enter_defers Try.func26, Try.ntmps26
  go_wp2_with fail
  refine Calls.mono HLI.out ?_
  rintro _ w1 ⟨rfl, hL1, hb1⟩
  have hsz0 : W0.heap.size = w.heap.size + 1 + 1 + 1 := by rw [← hW0]; simp
  clear hW0
  have HB1 : Hid (BoxO w w1 w.heap.size (.slice none 0 0) 0 0) := HBX.out.on (by rw [hsz0]; exact hb1)
  have HL1 : Hid (ListW w w1 (w.heap.size + 1 + 1 + 1) v ys.length) := ⟨hL1.blk, by omega, HB1.out.bel⟩
  generalize hR : w.heap.size + 1 + 1 + 1 = R at *
  have hRw : w.heap.size + 3 = R := by omega
  have HNX : Hid _ := next_calls (w := w) HR0.out HL1.out (Nat.le_refl _) (by omega)
  have HLT1 : Hid (R < w1.heap.size) := (Array.getElem?_eq_some_iff.1 hL1.blk).1
  clear hL1 hb1 hsz0 HLI HBX W0
  go_wp2_with fail
  refine Calls.mono HNX.out ?_
  rintro e2 w2 h2
  rcases h2.split (by omega) HL1.out.bel with ⟨hz, hbad, rfl, hb2, hB2⟩ | ⟨K, da, dn, dc, m, rfl, hb2, hB2, hN2⟩
  · have hBO := HB1.out.but hB2 (by omega)
    have HOI : Hid (OptsIs ys [] ((ys.length : Int) - (skipL ys).length) 47) := (PreO.start ys).bad hz hbad
    refine leaves_cons (f := 45) (args := #[.pointer (some ⟨w.heap.size, 0, none⟩), .pointer (some ⟨w.heap.size + 1, 0, none⟩), .pointer (some ⟨w.heap.size + 2, 0, none⟩)]) (by simp) (by simp [go_sem]) ?_
    refine (catch_faultO w w.heap.size _ 0 0 _ 47 _ hBO).mono ?_
    rintro e9 u9 w9 ⟨rfl, rfl, h9⟩
    refine ⟨_, resC rfl rfl rfl rfl (h9.load ⟨_, _, _, rfl⟩) h9.loadX h9.loadY, _, [], _, _, rfl, (OptRow.nil 0 0 w9).opts (by simp), h9.bel, HOI.out⟩
  · have hBa := (Below.refl w2.heap.size w2).alloc (Nat.le_refl _) (.cells #[.int .u8 K, .slice da dn dc] 76)
    have HST : Hid (LoopO w R ys (.pointer (some ⟨w2.heap.size, 0, none⟩)) (.bool m) (w2.alloc (.cells #[.int .u8 K, .slice da dn dc] 76))) := by
      refine LoopO.of_next ((HB1.out.but hB2 (by omega)).on hBa) (OptRow.nil _ _ _) ?_ (by simp) ⟨_, _, _, rfl⟩ (PreO.start ys) (blk_new w2 _) HR0.out.fit ?_
      · have := HLT1.out
        have := hB2.size
        omega
      · rcases hN2 with h | ⟨h1, h2, h3, h4, h5, s', h6, h7⟩
        · exact .inl h
        · exact .inr ⟨h1, h2, h3, h4, h5, s', h6, h7.on hBa⟩
    clear hBa hN2 hb2 hB2 HNX HL1 HB1 HLT1 h2
    go_wp2_with fail
    go_loopw [6, 7] (fun o m wr => LoopO w R ys o m wr) (fun _ m wr => measO R m wr)
    case atStart => exact HST.out
    case round =>
      obtain ⟨os, ds, v', O, rfl, hB, hRow, hO1, hO2, hol, ⟨va, vn, vk, rfl⟩, hm⟩ := hrel
      rcases hm with ⟨rfl, hIs⟩ | ⟨rfl, K', d', D', rest, s', f, hOb, hK', hd', hr', hL', hP⟩
      · have m0 := blk_cell hB.vb (j := 0) rfl
        have n0 := blk_open hB.vb 0
        have m1 := blk_cell hB.xb (j := 0) rfl
        have n1 := blk_open hB.xb 0
        have m2 := blk_cell hB.yb (j := 0) rfl
        have n2 := blk_open hB.yb 0
        have HE : Hid _ := ((hB.setV (.slice va vn vk)).setX 0).setY 0
        have hs1 : (wr.setCell ⟨w.heap.size, 0, none⟩ (.slice va vn vk)).heap.size = wr.heap.size := by simp [World.setCell]
        have hs2 : ((wr.setCell ⟨w.heap.size, 0, none⟩ (.slice va vn vk)).setCell ⟨w.heap.size + 1, 0, none⟩ (.int .i64 0)).heap.size = wr.heap.size := by simp [World.setCell]
        have HRow : Hid _ := ((hRow.setc (by omega) (X := w.heap.size) (.inl (by omega)) 0 (.slice va vn vk)).setc (by omega) (X := w.heap.size + 1) (.inl (by omega)) 0 (.int .i64 0)).setc (by omega) (X := w.heap.size + 2) (.inl (by omega)) 0 (.int .i64 0)
        have HIS : Hid (OptsIs ys os 0 0) := hIs
        clear hB hRow hIs hs1 hs2
        go_wp2
        refine leaves_cons (f := 45) (args := #[.pointer (some ⟨w.heap.size, 0, none⟩), .pointer (some ⟨w.heap.size + 1, 0, none⟩), .pointer (some ⟨w.heap.size + 2, 0, none⟩)]) (by simp) (by simp [go_sem]) ?_
        refine (catch_idleO _ _ _ _).mono ?_
        rintro e9 u9 w9 ⟨rfl, rfl, hb9⟩
        have h9 := HE.out.on hb9
        refine ⟨_, resC rfl rfl rfl rfl (h9.load ⟨_, _, _, rfl⟩) h9.loadX h9.loadY, _, os, _, _, rfl, (HRow.out.opts (by omega)).later hb9, h9.bel, HIS.out⟩
      · have k1 := blk_cell hOb (j := 1) rfl
        have hfd := hd'.fit
        have HCL : Hid _ := Clone_calls d' D' wr (hd'.later hB.bel)
        obtain ⟨_, _, xa, xc, rfl, _⟩ := hd'
        have HLL : Hid (leftLen wr R = rest.length) := hL'.leftLen hr'
        have HOB : Hid _ := hOb
        have HBX : Hid _ := hB
        have HRW : Hid _ := hRow
        have HR' : Hid _ := hr'
        have HL' : Hid _ := hL'
        have HP : Hid _ := hP
        clear hB hRow hL' hP hr' hOb
        go_wp2_with fail
        refine Calls.mono HCL.out ?_
        rintro _ w3 ⟨u, rfl, hu3, hb3, hloc3⟩
        have hOb3 := blk_on HOB.out hb3
        have k1' := blk_cell hOb3 (j := 1) rfl
        have f1' := blk_open hOb3 1
        have hsz3 := hb3.size
        have hO4 := (Only.refl O w3).set 1 u
        have hOb4 := blk_set hOb3 1 u
        rw [show ([.int .u8 K', .slice xa D'.length xc] : List Value).set 1 u = [.int .u8 K', u] from rfl] at hOb4
        have hB4 := (HBX.out.on hb3).but (But.of_only hO4) (by omega)
        have hRow4 := (HRW.out.on (by omega) hb3).setc (by omega) (X := O) (.inr (Nat.le_refl _)) 1 u
        have hL3 := HL'.out.on hb3
        have hL4 : ListW w (w3.setCell ⟨O, 1, none⟩ u) R s' ys.length := ⟨(hO4.other R (by omega)).trans hL3.blk, hL3.up, hL3.bel.trans (hO4.below (by have := hL3.up; omega))⟩
        have hlb3 := loc_both hu3 hloc3
        have hu4 := bytes_only hu3 hO4 (hloc3.imp (fun h => h) (fun ⟨b, off, n, k, e, h⟩ => ⟨b, off, n, k, e, by omega⟩))
        have hs4 : (w3.setCell ⟨O, 1, none⟩ u).heap.size = w3.heap.size := hO4.size
        obtain ⟨_, _, ua, uc, hue, _⟩ := hu3
        generalize hDn : D'.length = Dn at *
        subst hue
        have a0 := blk_cell hB4.vb (j := 0) rfl
        have a1 := blk_cell hOb4 (j := 0) rfl
        have a2 := blk_cell hOb4 (j := 1) rfl
        have b0 := blk_cell (HBX.out.on hb3).vb (j := 0) rfl
        have b1 := blk_cell hOb3 (j := 0) rfl
        have hne : ¬ O = w.heap.size := by omega
        have hne' : ¬ w.heap.size = O := by omega
        have hBa := (Below.refl (w3.setCell ⟨O, 1, none⟩ (.slice ua Dn uc)).heap.size (w3.setCell ⟨O, 1, none⟩ (.slice ua Dn uc))).alloc (Nat.le_refl _) (.cells #[.int .u8 K', .slice ua Dn uc] 76)
        have hXb := blk_new (w3.setCell ⟨O, 1, none⟩ (.slice ua Dn uc)) (.cells [.int .u8 K', .slice ua Dn uc].toArray 76)
        rw [hs4] at hXb
        have hOb5 := blk_alloc hOb4 (.cells #[.int .u8 K', .slice ua Dn uc] 76)
        have hB5 := hB4.on hBa
        have hL5 := hL4.on hBa
        have hRow5 := hRow4.on (by rw [hs4]; omega) hBa
        have hu5 := hu4.later hBa
        have hs5 : ((w3.setCell ⟨O, 1, none⟩ (.slice ua Dn uc)).alloc (.cells #[.int .u8 K', .slice ua Dn uc] 76)).heap.size = w3.heap.size + 1 := by simp [World.setCell]
        have hlen' := HP.out.len
        simp only [List.length_append, List.length_cons, List.length_nil] at hlen'
        have hown : ∀ g, (Value.slice va vn vk).ownBlock = some g → R + 1 ≤ g ∧ g < O := fun g hg => ⟨(HRW.out.own.lt g hg).1, HRW.out.gl g hg⟩
        obtain ⟨v6, W6, hrun6, hRow6, hgr6, ⟨ya, yn, yk, rfl⟩⟩ := hRow5.push (X := w3.heap.size) (K := K') (u := .slice ua Dn uc) (D := D') (by omega) (by omega) (blk_cell hXb rfl) (blk_cell hXb rfl) hK' hu5 (hlb3.imp (fun h => hDn.trans h) (fun ⟨b, off, n, k, e, h1, h2⟩ => ⟨b, off, n, k, e, by omega, by omega, fun e' => by have := hown b e'; omega⟩)) (by omega) 1 42
        have hk6 : ∀ j, j < w3.heap.size + 1 → j ≤ R ∨ j = O → W6.heap[j]? = ((w3.setCell ⟨O, 1, none⟩ (.slice ua Dn uc)).alloc (.cells #[.int .u8 K', .slice ua Dn uc] 76)).heap[j]? := fun j hj hc => hgr6.block j (by omega) (fun e => by have := hown j e.symm; omega)
        have hbel6 : Below w.heap.size ((w3.setCell ⟨O, 1, none⟩ (.slice ua Dn uc)).alloc (.cells #[.int .u8 K', .slice ua Dn uc] 76)) W6 := ⟨hgr6.os, hgr6.tape, hgr6.output, hgr6.size, fun j hj => hk6 j (by omega) (.inl (by omega))⟩
        have hB6 := hB5.same hbel6 (fun j hj => hk6 j (by omega) (.inl (by omega)))
        have hL6 : ListW w W6 R s' ys.length := ⟨(hk6 R (by omega) (.inl (Nat.le_refl _))).trans hL5.blk, hL5.up, hL5.bel.trans hbel6⟩
        have hOb6 := (hk6 O (by omega) (.inr rfl)).trans hOb5
        have hs6 := hgr6.size
        have c0 := blk_cell hB6.vb (j := 0) rfl
        have e0 := blk_open hB6.vb 0
        have hO7 := (Only.refl w.heap.size W6).set 0 (.slice ya yn yk)
        have hB7 := hB6.setV (.slice ya yn yk)
        have hRow7 := hRow6.setc (Nat.le_refl _) (X := w.heap.size) (.inl (by omega)) 0 (.slice ya yn yk)
        have hL7 : ListW w (W6.setCell ⟨w.heap.size, 0, none⟩ (.slice ya yn yk)) R s' ys.length := ⟨(hO7.other R (by omega)).trans hL6.blk, hL6.up, hL6.bel.trans (hO7.below (Nat.le_refl _))⟩
        have hOb7 := (hO7.other O (by omega)).trans hOb6
        have hs7 : (W6.setCell ⟨w.heap.size, 0, none⟩ (.slice ya yn yk)).heap.size = W6.heap.size := hO7.size
        have g0 := blk_cell hOb7 (j := 0) rfl
        have g1 := blk_cell hOb7 (j := 1) rfl
        have hB8a := (Below.refl (W6.setCell ⟨w.heap.size, 0, none⟩ (.slice ya yn yk)).heap.size (W6.setCell ⟨w.heap.size, 0, none⟩ (.slice ya yn yk))).alloc (Nat.le_refl _) (.cells #[.int .u8 K', .slice ua Dn uc] 76)
        have HB8 : Hid _ := hB7.on hB8a
        have HL8 : Hid _ := hL7.on hB8a
        have HRow8 : Hid _ := hRow7.on (by rw [hs7]; exact Nat.le_refl _) hB8a
        have hNb := blk_new (W6.setCell ⟨w.heap.size, 0, none⟩ (.slice ya yn yk)) (.cells [.int .u8 K', .slice ua Dn uc].toArray 76)
        rw [hs7] at hNb
        have HNb : Hid _ := hNb
        have HNX : Hid _ := next_calls (w := w) HR'.out HL8.out (by omega) (by omega)
        have HRUN : Hid _ := hrun6
        have HS8 : Hid (((W6.setCell ⟨w.heap.size, 0, none⟩ (.slice ya yn yk)).alloc (.cells #[.int .u8 K', .slice ua Dn uc] 76)).heap.size = W6.heap.size + 1) := by show _ = _; simp [World.setCell]
        clear hrun6 hNb hB8a hL7 hRow7 hB7 hOb7 hO7 hOb6 hL6 hB6 hbel6 hk6 hgr6 hRow6 hown hRow5 hL5 hB5 hOb5 hXb hBa hlb3 hu4 hu5 hL4 hL3 hRow4 hB4 hOb4 hO4 hOb3 hb3 hloc3 HCL k1 hDn
        go_wp2_with (at_builtin; refine wpList_append_run rfl _ _ _ _ rfl rfl rfl HRUN.out ?_; clear HRUN)
        refine Calls.mono HNX.out ?_
        rintro e9 w9 h9
        rcases h9.split (by omega) HL8.out.bel with ⟨hz, hbad, rfl, hb9, hB9⟩ | ⟨K9, ea, en, ec, m9, rfl, hb9, hB9, hN9⟩
        · have hBO := HB8.out.but hB9 (by omega)
          have HOI : Hid (OptsIs ys [] ((ys.length : Int) - (skipL rest).length) 47) := HP.out.bad hz hbad
          refine leaves_cons (f := 45) (args := #[.pointer (some ⟨w.heap.size, 0, none⟩), .pointer (some ⟨w.heap.size + 1, 0, none⟩), .pointer (some ⟨w.heap.size + 2, 0, none⟩)]) (by simp) (by simp [go_sem]) ?_
          refine (catch_faultO w w.heap.size _ 0 0 _ 47 _ hBO).mono ?_
          rintro e10 u10 w10 ⟨rfl, rfl, h10⟩
          refine ⟨_, resC rfl rfl rfl rfl (h10.load ⟨_, _, _, rfl⟩) h10.loadX h10.loadY, _, [], _, _, rfl, (OptRow.nil 0 0 w10).opts (by simp), h10.bel, HOI.out⟩
        · have hsz8 := HS8.out
          have hsz9 := hB9.size
          have hOb9 := hB9.blk HNb.out (by omega)
          have l0 := blk_cell hOb9 (j := 0) rfl
          have l1 := blk_cell hOb9 (j := 1) rfl
          have p0 := blk_open hOb9 0
          have p1 := blk_open hOb9 1
          have hO10 := ((Only.refl W6.heap.size w9).set 0 (.int .u8 K9)).set 1 (.slice ea en ec)
          have hOb10 : ((w9.setCell ⟨W6.heap.size, 0, none⟩ (.int .u8 K9)).setCell ⟨W6.heap.size, 1, none⟩ (.slice ea en ec)).heap[W6.heap.size]? = some (.cells [.int .u8 K9, .slice ea en ec].toArray 76) := by rw [blk_set (blk_set hOb9 0 _) 1 _]; rfl
          have hB10 := (HB8.out.but hB9 (by omega)).but (But.of_only hO10) (by omega)
          have hRow10 := ((HRow8.out.but (by omega) hB9 (by omega)).setc (by omega) (X := W6.heap.size) (.inr (Nat.le_refl _)) 0 (.int .u8 K9)).setc (by simp [World.setCell]; omega) (X := W6.heap.size) (.inr (Nat.le_refl _)) 1 (.slice ea en ec)
          have hN10 : NxO w ((w9.setCell ⟨W6.heap.size, 0, none⟩ (.int .u8 K9)).setCell ⟨W6.heap.size, 1, none⟩ (.slice ea en ec)) R ys.length rest K9 (.slice ea en ec) m9 := by
            rcases hN9 with h | ⟨h1, h2, h3, h4, h5, s9, h6, h7⟩
            · exact .inl h
            · exact .inr ⟨h1, h2, h3, h4, h5, s9, h6, ⟨(hO10.other R (by omega)).trans h7.blk, h7.up, h7.bel.trans (hO10.below (by omega))⟩⟩
          have HST9 : Hid (LoopO w R ys (.pointer (some ⟨W6.heap.size, 0, none⟩)) (.bool m9) ((w9.setCell ⟨W6.heap.size, 0, none⟩ (.int .u8 K9)).setCell ⟨W6.heap.size, 1, none⟩ (.slice ea en ec))) :=
            LoopO.of_next hB10 hRow10 (by omega) (by rw [hO10.size]; omega) ⟨_, _, _, rfl⟩ HP.out hOb10 HR'.out.fit hN10
          have HME : Hid (measO R (.bool m9) ((w9.setCell ⟨W6.heap.size, 0, none⟩ (.int .u8 K9)).setCell ⟨W6.heap.size, 1, none⟩ (.slice ea en ec)) < measO R (.bool true) wr) := by
            show measO R (.bool m9) _ < leftLen wr R + 1
            rw [HLL.out]
            rcases hN10 with ⟨rfl, _⟩ | ⟨rfl, h2, h3, h4, h5, s9, h6, h7⟩
            · show 0 < _
              omega
            · show leftLen _ R + 1 < _
              rw [h7.leftLen h6]
              have := drop_less h3
              omega
          clear hN10 hRow10 hB10 hOb10 hO10 hOb9 hN9 hB9 hb9 h9
          go_wp2
          exact ⟨HST9.out, HME.out⟩

end Go.Proofs.Ytmoogfdmlbalbaa
