/-
  Options in memory and as bytes; Pack of package ipv4. Reading options: option and next of package ipv4. The next option of bytes. Options of package ipv4. Options of package ipv4: what catches, and the walk. Options of package ipv4: the walk.
  The document's SameOptions of equal rows; options as argument; what is packed is read. Options as argument.
  The document's Options. The document's Pack. A source route that is not at its end: route of package ipv4. The document's Routed. Routed of package ipv4. Routed of package ipv4: the walk.
-/
import Derived.Test.YtnjkagopmfenkaaGreatFold04
import Derived.Test.YtnjkagopmfenkaaGreatFold13
import Derived.Deep.SlicePairs
namespace Go.Proofs.YtnjkagopmfenkaaGreat.V4
open Go Go.RowKit
set_option linter.unusedVariables false
set_option linter.unusedSimpArgs false

abbrev Opts := List (Int × List Int)
def oK (os : Opts) (j : Nat) : Int := (os[j]?.getD (0, [])).1
def oD (os : Opts) (j : Nat) : List Int := (os[j]?.getD (0, [])).2
def oTot (os : Opts) : Nat → Nat
  | 0 => 0
  | k + 1 => oTot os k + (2 + (oD os k).length)
def oGood (os : Opts) (j : Nat) : Prop := 2 ≤ oK os j ∧ (oD os j).length ≤ 38
def oAll (os : Opts) (k : Nat) : Prop := ∀ j, j < k → oGood os j
def oFlat (os : Opts) : Nat → List Int
  | 0 => []
  | k + 1 => oFlat os k ++ (oK os k :: ((2 + (oD os k).length : Nat) : Int) :: oD os k)
theorem oFlat_length (os : Opts) : ∀ k, (oFlat os k).length = oTot os k
  | 0 => rfl
  | k + 1 => by simp [oFlat, oTot, oFlat_length os k]; omega
theorem oAll_succ {os : Opts} {k : Nat} (h : oAll os k) (hk : oGood os k) : oAll os (k + 1) := fun j hj => by
  by_cases e : j = k
  · subst e; exact hk
  · exact h j (by omega)
theorem oTot_le {os : Opts} : ∀ {k : Nat}, oAll os k → oTot os k ≤ 40 * k
  | 0, _ => by simp [oTot]
  | k + 1, h => by
    have := oTot_le (os := os) (k := k) (fun j hj => h j (by omega))
    have := (h k (by omega)).2
    simp only [oTot]
    omega
theorem oTot_mono (os : Opts) : ∀ k d, oTot os k ≤ oTot os (k + d)
  | k, 0 => Nat.le_refl _
  | k, d + 1 => Nat.le_trans (oTot_mono os k d) (Nat.le_add_right (oTot os (k + d)) _)
def up4 (n : Nat) : Nat := (n + 3) / 4 * 4
/-- The row of which the first k options are written. -/
def packR (os : Opts) (k : Nat) : List Int := oFlat os k ++ List.replicate (up4 (oTot os os.length) - oTot os k) 0
theorem packR_length {os : Opts} {k : Nat} (hk : k ≤ os.length) : (packR os k).length = up4 (oTot os os.length) := by
  have h1 := oTot_mono os k (os.length - k)
  rw [show k + (os.length - k) = os.length by omega] at h1
  have h2 : oTot os os.length ≤ up4 (oTot os os.length) := by unfold up4; omega
  simp [packR, oFlat_length]
  omega
theorem packR_step {os : Opts} {k : Nat} (hk : k < os.length) :
    let r := ((packR os k).set (oTot os k) (oK os k)).set (oTot os k + 1) (((2 + (oD os k).length : Nat) : Int))
    r.take (oTot os k + 2) ++ oD os k ++ r.drop (oTot os k + 2 + (oD os k).length) = packR os (k + 1) := by
  intro r
  have h1 := oTot_mono os (k + 1) (os.length - (k + 1))
  rw [show k + 1 + (os.length - (k + 1)) = os.length by omega] at h1
  have h2 : oTot os os.length ≤ up4 (oTot os os.length) := by unfold up4; omega
  have e0 : oTot os (k + 1) = oTot os k + (2 + (oD os k).length) := rfl
  have hl := oFlat_length os k
  obtain ⟨m, hm⟩ : ∃ m, up4 (oTot os os.length) - oTot os k = m + 2 + (oD os k).length := ⟨up4 (oTot os os.length) - oTot os k - 2 - (oD os k).length, by omega⟩
  have er : r = oFlat os k ++ (oK os k :: ((2 + (oD os k).length : Nat) : Int) :: List.replicate (m + (oD os k).length) 0) := by
    show ((packR os k).set (oTot os k) (oK os k)).set (oTot os k + 1) _ = _
    unfold packR
    rw [hm, show m + 2 + (oD os k).length = (m + (oD os k).length) + 1 + 1 by omega, List.replicate_succ, List.replicate_succ, ← hl, List.set_append_right _ _ (Nat.le_refl _), List.set_append_right _ _ (by omega)]
    simp
  rw [er]
  have e3 : packR os (k + 1) = oFlat os k ++ (oK os k :: ((2 + (oD os k).length : Nat) : Int) :: oD os k) ++ List.replicate m 0 := by
    unfold packR
    rw [show up4 (oTot os os.length) - oTot os (k + 1) = m by omega]
    rfl
  rw [e3, ← hl]
  generalize oFlat os k = F
  generalize oD os k = D
  generalize oK os k = K
  generalize ((2 + D.length : Nat) : Int) = L
  have t1 : (F ++ (K :: L :: List.replicate (m + D.length) 0)).take (F.length + 2) = F ++ [K, L] := by
    rw [List.take_append, List.take_of_length_le (by omega)]
    simp
  have t2 : (F ++ (K :: L :: List.replicate (m + D.length) 0)).drop (F.length + 2 + D.length) = List.replicate m 0 := by
    rw [List.drop_append, List.drop_of_length_le (by omega), show F.length + 2 + D.length - F.length = D.length + 1 + 1 by omega, List.drop_succ_cons, List.drop_succ_cons, List.drop_replicate]
    simp
  rw [t1, t2]
  simp

theorem oFlat_fit {os : Opts} (hk : ∀ j, 0 ≤ oK os j ∧ oK os j < 256) : ∀ {k : Nat}, oAll os k → (∀ j, j < k → Fit (oD os j)) → Fit (oFlat os k)
  | 0, _, _ => fun z hz => by simp [oFlat] at hz
  | k + 1, ha, hd => fun z hz => by
    rw [oFlat, List.mem_append] at hz
    rcases hz with hz | hz
    · exact oFlat_fit hk (fun j hj => ha j (by omega)) (fun j hj => hd j (by omega)) z hz
    · have h38 := (ha k (by omega)).2
      simp only [List.mem_cons] at hz
      rcases hz with rfl | rfl | hz
      · exact hk k
      · omega
      · exact hd k (by omega) z hz
theorem packR_fit {os : Opts} (hk : ∀ j, 0 ≤ oK os j ∧ oK os j < 256) {k : Nat} (ha : oAll os k) (hd : ∀ j, j < k → Fit (oD os j)) : Fit (packR os k) := fun z hz => by
  rw [packR, List.mem_append] at hz
  rcases hz with hz | hz
  · exact oFlat_fit hk ha hd z hz
  · have := List.eq_of_mem_replicate hz
    omega

/-- Options that came in or were made. -/
structure OptsAt (n₀ : Nat) (W : World) (v : Value) (os : Opts) : Prop where
  fit : ∀ j, 0 ≤ oK os j ∧ oK os j < 256
  len : os.length ≤ 140737488351232
  val : ∃ a cap, v = .slice a os.length cap ∧ (os.length = 0 ∨ ∃ b off, a = some ⟨b, off, none⟩ ∧ b < n₀ ∧ ∀ j, j < os.length → W.cell? ⟨b, off + j * 2, none⟩ = some (.int .u8 (oK os j)) ∧ ∃ s, W.cell? ⟨b, off + j * 2 + 1, none⟩ = some s ∧ BytesAt n₀ W s (oD os j))
theorem OptsAt.later {A B : World} {v : Value} {os : Opts} (h : OptsAt A.heap.size A v os) (hb : Below A.heap.size A B) : OptsAt B.heap.size B v os := by
  obtain ⟨h1, hl, a, cap, hv, hz⟩ := h
  refine ⟨h1, hl, a, cap, hv, hz.imp id ?_⟩
  rintro ⟨b, off, rfl, hlt, hc⟩
  refine ⟨b, off, rfl, by have := hb.size; omega, fun j hj => ?_⟩
  obtain ⟨c0, s, c1, hs⟩ := hc j hj
  exact ⟨(hb.cell (p := ⟨b, off + j * 2, none⟩) hlt).trans c0, s, (hb.cell (p := ⟨b, off + j * 2 + 1, none⟩) hlt).trans c1, hs.later hb⟩

/-- What Pack answers. -/
def PackIs (os : Opts) (bs : List Int) (er : Int) : Prop :=
  (∃ k, k < os.length ∧ oAll os k ∧ ¬ oGood os k ∧ bs = [] ∧ er = 47) ∨ (oAll os os.length ∧ 40 < oTot os os.length ∧ bs = [] ∧ er = 2) ∨ (oAll os os.length ∧ oTot os os.length ≤ 40 ∧ bs = packR os os.length ∧ er = 0)
theorem PackIs.unique {os : Opts} {bs bs' : List Int} {er er' : Int} (h : PackIs os bs er) (h' : PackIs os bs' er') : bs = bs' ∧ er = er' := by
  rcases h with ⟨k, hk, ha, hn, rfl, rfl⟩ | ⟨ha, ht, rfl, rfl⟩ | ⟨ha, ht, rfl, rfl⟩ <;> rcases h' with ⟨k', hk', ha', hn', rfl, rfl⟩ | ⟨ha', ht', rfl, rfl⟩ | ⟨ha', ht', rfl, rfl⟩
  · exact ⟨rfl, rfl⟩
  · exact absurd (ha' k hk) hn
  · exact absurd (ha' k hk) hn
  · exact absurd (ha k' hk') hn'
  · exact ⟨rfl, rfl⟩
  · omega
  · exact absurd (ha k' hk') hn'
  · omega
  · exact ⟨rfl, rfl⟩
def PackPost (os : Opts) (w : World) (e : Ending) (w' : World) : Prop :=
  ∃ r bs er, e = .returned (.tuple #[r, .int .i64 er]) ∧ RowC w' r bs ∧ Below w.heap.size w w' ∧ PackIs os bs er
theorem _root_.Go.Proofs.YtnjkagopmfenkaaGreat.RowC.nil (w : World) : RowC w (.slice none 0 0) [] := ⟨fun z hz => by simp at hz, by simp, _, _, rfl, Nat.le_refl _, .inl rfl⟩

end Go.Proofs.YtnjkagopmfenkaaGreat.V4
namespace Go.Proofs.YtnjkagopmfenkaaGreat.V4
open Go Go.RowKit
set_option linter.unusedVariables false
set_option linter.unusedSimpArgs false

/-- A list in its box. -/
structure ListW (w W : World) (R : Nat) (s : Value) (N : Nat) : Prop where
  blk : W.heap[R]? = some (.cells [s, .int .i64 N].toArray 167)
  up : w.heap.size ≤ R
  bel : Below w.heap.size w W
theorem ListW.put {w W : World} {R N : Nat} {s : Value} (h : ListW w W R s N) (s' : Value) : ListW w (W.setCell ⟨R, 0, none⟩ s') R s' N :=
  ⟨by rw [blk_set h.blk]; rfl, h.up, h.bel.setCell h.up _⟩
theorem ListW.drew {w W : World} {R N : Nat} {s : Value} (h : ListW w W R s N) : ListW w W.drew R s N := ⟨h.blk, h.up, h.bel.drew⟩
theorem ListW.on {w W W' : World} {R N : Nat} {s : Value} (h : ListW w W R s N) (hb : Below W.heap.size W W') : ListW w W' R s N := ⟨blk_on h.blk hb, h.up, h.bel.trans (hb.mono h.bel.size)⟩

section
variable {R : Nat} {u v w : World}
end

theorem octet_row {w W : World} {R N b off cap : Nat} {s : Value} {ys : List Int} (hr : RowS w s ys b off cap) (hL : ListW w W R s N) (h1 : 1 ≤ ys.length) :
    Calls Tryz.prog 112 #[.pointer (some ⟨R, 0, none⟩)] W fun e w' => e = .returned (.int .u8 (gz ys 0)) ∧ ListW w w' R (restV b off ys.length cap 1) N ∧ Only R W w' := by
  have hc := blk_cell hL.blk (j := 0) rfl
  rw [hr.val] at hc
  have hlt := hr.lt
  have hup := hL.up
  refine (octet_calls R b off ys.length cap (gz ys 0) W hc (blk_open hL.blk 0) h1 hr.room (by omega) ((hL.bel.cell (p := ⟨b, off, none⟩) hlt).trans (hr.cell 0 (by omega)))).mono ?_
  rintro e w' ⟨rfl, rfl⟩
  exact ⟨rfl, hL.put _, (Only.refl _ _).set _ _⟩
theorem run_row {w W : World} {R N b off cap : Nat} {s : Value} {ys : List Int} (hr : RowS w s ys b off cap) (hL : ListW w W R s N) (n : Nat) (hn : n ≤ ys.length) :
    Calls Tryz.prog 138 #[.pointer (some ⟨R, 0, none⟩), .int .i64 n] W fun e w' => e = .returned (.slice (some ⟨b, off, none⟩) n cap) ∧ ListW w w' R (restV b off ys.length cap n) N ∧ Only R W w' := by
  have hc := blk_cell hL.blk (j := 0) rfl
  rw [hr.val] at hc
  refine (run_calls R b off ys.length cap n W hc (blk_open hL.blk 0) hn hr.room).mono ?_
  rintro e w' ⟨rfl, rfl⟩
  exact ⟨rfl, hL.put _, (Only.refl _ _).set _ _⟩

def badO (ys : List Int) : Prop := ys.length < 2 ∨ gz ys 1 < 2 ∨ (ys.length : Int) < gz ys 1

set_option maxHeartbeats 600000 in
set_option maxRecDepth 100000 in
theorem option_bad {w W : World} {R N : Nat} {s : Value} {ys : List Int} (hr : RowC w s ys) (hL : ListW w W R s N) (h1 : 1 ≤ ys.length) (hN : ys.length ≤ N) (hN2 : N ≤ 140737488351232) (hb : badO ys) :
    Calls Tryz.prog 113 #[.pointer (some ⟨R, 0, none⟩)] W fun e w' => e = .panicked [faultP ((N : Int) - ys.length) 47] ∧ Below w.heap.size w w' ∧ But R W w' := by
  obtain ⟨b, off, cap, hS⟩ := hr.rowS h1
  have hBut : But R W (W.alloc (.cells #[.int .u8 0, .slice none 0 0] 121)).drew := ((But.refl R W).alloc _).drew
  have HBUT : Hid _ := hBut
  clear hBut
  replace hL := hL.on ((Below.refl W.heap.size W).alloc (Nat.le_refl _) (.cells #[.int .u8 0, .slice none 0 0] 121))
  have c0 := blk_cell hL.blk (j := 0) rfl
  have c1 := blk_cell hL.blk (j := 1) rfl
  rw [hS.val] at c0
  have v0 : IntKind.i64.wrap ((N : Int) - (ys.length : Int)) = (N : Int) - (ys.length : Int) := wrapi64 _ (by omega)
  by_cases h2 : ys.length < 2
  · have q0 : decide ((2 : Int) ≤ (ys.length : Int)) = false := by simp; omega
    have HB : Hid _ := hL.bel.drew
    have HB2 : Hid _ := hL.bel
    clear hb hL hr hS
    generalize ys.length = L at *
    go_enter Tryz.func113, Tryz.ntmps113
    go_wp2_with fail
    go_region
    go_wp2_with fail
    refine Calls.mono (must_bad _ _ _) ?_
    rintro e1 w1 ⟨rfl, hw1⟩
    obtain rfl := hw1.symm
    exact ⟨rfl, rfl, HB.out, HBUT.out⟩
  · have q0 : decide ((2 : Int) ≤ (ys.length : Int)) = true := by simp; omega
    have hS1 := hS.rest 1 (by omega)
    have hg := hS.fit.gz 1
    have e1 : gz (ys.drop 1) 0 = gz ys 1 := by rw [gz_drop]
    have HO1 : Hid _ := octet_row hS hL.drew h1
    have HO2 : Hid (∀ W, ListW w W R (restV b off ys.length cap 1) N → Calls Tryz.prog 112 #[.pointer (some ⟨R, 0, none⟩)] W fun e w' => e = .returned (.int .u8 (gz ys 1)) ∧ ListW w w' R (restV b (nxt off cap 1) (ys.length - 1) (cap - 1) 1) N ∧ Only R W w') := fun W hW => by
      have := octet_row hS1 hW (by simp; omega)
      rwa [e1, List.length_drop] at this
    have hb' : gz ys 1 < 2 ∨ (ys.length : Int) < gz ys 1 := hb.resolve_left h2
    have v1 : IntKind.i64.wrap (gz ys 1 - 2) = gz ys 1 - 2 := wrapi64 _ (by omega)
    obtain ⟨L2, hLn⟩ : ∃ L2, L2 = ys.length - 1 - 1 := ⟨_, rfl⟩
    have hl2 : restV b (nxt off cap 1) (ys.length - 1) (cap - 1) 1 = .slice (some ⟨b, nxt (nxt off cap 1) (cap - 1) 1, none⟩) L2 (cap - 1 - 1) := by rw [hLn]; exact restV_eq ..
    have hq2 : (L2 : Int) = (ys.length : Int) - 2 := by omega
    have HQ2 : Hid _ := hq2
    clear hLn hq2
    have HL2 : Hid _ := hl2
    clear hb hL hr hS hS1 e1 hl2
    generalize gz ys 1 = z at *
    generalize gz ys 0 = z0 at *
    generalize restV b off ys.length cap 1 = s1 at *
    generalize restV b (nxt off cap 1) (ys.length - 1) (cap - 1) 1 = s2 at *
    go_enter Tryz.func113, Tryz.ntmps113
    go_wp2_with fail
    go_region
    go_wp2_with fail
    refine Calls.mono (must_good _ _ _) ?_
    rintro e1 w1 ⟨rfl, hw1⟩
    obtain rfl := hw1.symm
    clear hw1
    go_wp2_with fail
    refine Calls.mono HO1.out ?_
    rintro e2 w2 ⟨rfl, hL2, hO2⟩
    have HL2' : Hid _ := hL2
    have HBT2 : Hid _ := HBUT.out.trans (.of_only hO2)
    clear hO2
    clear hL2
    go_wp2_with fail
    refine Calls.mono (HO2.out _ HL2'.out) ?_
    rintro e3 w3 ⟨rfl, hL3, hO3⟩
    have HBT3 : Hid _ := HBT2.out.trans (.of_only hO3)
    clear hO3
    have d0 := blk_cell hL3.blk (j := 0) rfl
    rw [HL2.out] at d0
    have HB : Hid _ := hL3.bel
    clear hL3 c0 c1
    by_cases hz : z < 2
    · have q1 : decide ((0 : Int) ≤ z - 2) = false := by simp; omega
      go_wp2_with fail
      refine Calls.mono (must_bad _ _ _) ?_
      rintro e4 w4 ⟨rfl, hw4⟩
      obtain rfl := hw4.symm
      exact ⟨rfl, rfl, HB.out, HBT3.out⟩
    · have q1 : decide ((0 : Int) ≤ z - 2) = true := by simp; omega
      have q2 : decide (z - 2 ≤ (L2 : Int)) = false := by have := HQ2.out; simp; omega
      go_wp2_with fail
      refine Calls.mono (must_bad _ _ _) ?_
      rintro e4 w4 ⟨rfl, hw4⟩
      obtain rfl := hw4.symm
      exact ⟨rfl, rfl, HB.out, HBT3.out⟩

set_option maxHeartbeats 1000000 in
set_option maxRecDepth 100000 in
theorem option_good {w W : World} {R N : Nat} {s : Value} {ys : List Int} (hr : RowC w s ys) (hL : ListW w W R s N) (h1 : 1 ≤ ys.length) (hN : ys.length ≤ N) (hN2 : N ≤ 140737488351232) (hb : ¬ badO ys) :
    Calls Tryz.prog 113 #[.pointer (some ⟨R, 0, none⟩)] W fun e w' => ∃ d s', e = .returned (.agg #[.int .u8 (gz ys 0), d]) ∧ BytesAt w.heap.size w d ((ys.drop 2).take ((gz ys 1).toNat - 2)) ∧ RowC w s' (ys.drop (gz ys 1).toNat) ∧ ListW w w' R s' N ∧ But R W w' := by
  obtain ⟨b, off, cap, hS⟩ := hr.rowS h1
  have rb := blk_new W (.cells [.int .u8 0, .slice none 0 0].toArray 121)
  have hRW : R < W.heap.size := (Array.getElem?_eq_some_iff.1 hL.blk).1
  have hBut : But R W (W.alloc (.cells #[.int .u8 0, .slice none 0 0] 121)).drew := ((But.refl R W).alloc _).drew
  have HBUT : Hid _ := hBut
  have HRB : Hid _ := rb
  clear hBut rb
  replace hL := hL.on ((Below.refl W.heap.size W).alloc (Nat.le_refl _) (.cells #[.int .u8 0, .slice none 0 0] 121))
  have c0 := blk_cell hL.blk (j := 0) rfl
  have c1 := blk_cell hL.blk (j := 1) rfl
  rw [hS.val] at c0
  have v0 : IntKind.i64.wrap ((N : Int) - (ys.length : Int)) = (N : Int) - (ys.length : Int) := wrapi64 _ (by omega)
  unfold badO at hb
  have hb2 : 2 ≤ ys.length ∧ 2 ≤ gz ys 1 ∧ gz ys 1 ≤ ys.length := by omega
  have q0 : decide ((2 : Int) ≤ (ys.length : Int)) = true := by simp; omega
  have hS1 := hS.rest 1 (by omega)
  have hS2 := hS1.rest 1 (by simp; omega)
  have hg := hS.fit.gz 1
  have e1 : gz (ys.drop 1) 0 = gz ys 1 := by rw [gz_drop]
  obtain ⟨n, hn⟩ := Int.eq_ofNat_of_zero_le (show 0 ≤ gz ys 1 - 2 by omega)
  have hn2 : (gz ys 1).toNat = n + 2 := by omega
  rw [hn2]
  have HO1 : Hid _ := octet_row hS hL.drew h1
  have HO2 : Hid (∀ W, ListW w W R (restV b off ys.length cap 1) N → Calls Tryz.prog 112 #[.pointer (some ⟨R, 0, none⟩)] W fun e w' => e = .returned (.int .u8 (gz ys 1)) ∧ ListW w w' R (restV b (nxt off cap 1) (ys.length - 1) (cap - 1) 1) N ∧ Only R W w') := fun W hW => by
    have := octet_row hS1 hW (by simp; omega)
    rwa [e1, List.length_drop] at this
  rw [List.length_drop, List.drop_drop] at hS2
  have HO3 : Hid (∀ W, ListW w W R (restV b (nxt off cap 1) (ys.length - 1) (cap - 1) 1) N → _) := fun W hW => run_row hS2 hW n (by simp; omega)
  have hS3 := hS2.rest n (by simp; omega)
  have v1 : IntKind.i64.wrap (gz ys 1 - 2) = gz ys 1 - 2 := wrapi64 _ (by omega)
  obtain ⟨L2, hLn⟩ : ∃ L2, L2 = ys.length - 1 - 1 := ⟨_, rfl⟩
  have hl2 : restV b (nxt off cap 1) (ys.length - 1) (cap - 1) 1 = .slice (some ⟨b, nxt (nxt off cap 1) (cap - 1) 1, none⟩) L2 (cap - 1 - 1) := by rw [hLn]; exact restV_eq ..
  have q1 : decide ((0 : Int) ≤ (n : Int)) = true := by simp
  have q2 : decide (n ≤ L2) = true := by simp; omega
  have q3 : n ≤ L2 := by omega
  have HL2 : Hid _ := hl2
  have hd : BytesAt w.heap.size w (.slice (some ⟨b, nxt (nxt off cap 1) (cap - 1) 1, none⟩) n (cap - 1 - 1)) ((ys.drop 2).take n) := by
    have := piece_at (i := 0) (n := n) (k := cap - 1 - 1) (o := nxt (nxt off cap 1) (cap - 1) 1) hS2.lt hS2.fit hS2.len hS2.cell (by simp; omega) (fun _ => rfl)
    simpa using this
  have HD : Hid _ := hd
  have HS3 : Hid (RowC w (restV b (nxt (nxt off cap 1) (cap - 1) 1) (ys.drop 2).length (cap - 1 - 1) n) (ys.drop (n + 2))) := by
    have := hS3.row
    rw [List.drop_drop] at this
    rwa [Nat.add_comm n 2]
  clear hb hb2 hL hr hS hS1 hS2 hS3 e1 hl2 hd hLn hn2
  rw [hn] at v1
  generalize gz ys 1 = z at *
  generalize gz ys 0 = z0 at *
  go_enter Tryz.func113, Tryz.ntmps113
  go_wp2_with fail
  go_region
  go_wp2_with fail
  refine Calls.mono (must_good _ _ _) ?_
  rintro e1 w1 ⟨rfl, hw1⟩
  obtain rfl := hw1.symm
  clear hw1
  go_wp2_with fail
  refine Calls.mono HO1.out ?_
  rintro e2 w2 ⟨rfl, hL2, hO2⟩
  have HO2' : Hid _ := hO2
  clear hO2
  have HL2' : Hid _ := hL2
  clear hL2 c0 c1
  go_wp2_with fail
  refine Calls.mono (HO2.out _ HL2'.out) ?_
  rintro e3 w3 ⟨rfl, hL3, hO3⟩
  have HO3' : Hid _ := hO3
  clear hO3
  have d0 := blk_cell hL3.blk (j := 0) rfl
  rw [HL2.out] at d0
  have HL3 : Hid _ := hL3
  clear hL3
  go_wp2_with fail
  refine Calls.mono (must_good _ _ _) ?_
  rintro e4 w4 ⟨rfl, hw4⟩
  obtain rfl := hw4.symm
  clear hw4
  go_wp2_with fail
  refine Calls.mono (HO3.out _ HL3.out) ?_
  rintro e5 w5 ⟨rfl, hL5, hO5⟩
  have rb5 : w5.heap[W.heap.size]? = some (.cells [.int .u8 0, .slice none 0 0].toArray 121) := by
    have hne : W.heap.size ≠ R := by omega
    exact (hO5.other _ hne).trans ((HO3'.out.other _ hne).trans ((HO2'.out.other _ hne).trans HRB.out))
  have k0 := blk_cell rb5 (j := 0) rfl
  have k1 := blk_cell rb5 (j := 1) rfl
  have f0 := blk_open rb5 0
  have f1 := blk_open rb5 1
  have hBT : But R W w5 := ((HBUT.out.trans (.of_only HO2'.out)).trans (.of_only HO3'.out)).trans (.of_only hO5)
  have hO6 := ((Only.refl W.heap.size w5).set 0 (.int .u8 z0)).set 1 (.slice (some ⟨b, nxt (nxt off cap 1) (cap - 1) 1, none⟩) n (cap - 1 - 1))
  have HBT : Hid _ := hBT.off hO6 (Nat.le_refl _)
  have HL6 : Hid (ListW w ((w5.setCell ⟨W.heap.size, 0, none⟩ (.int .u8 z0)).setCell ⟨W.heap.size, 1, none⟩ (.slice (some ⟨b, nxt (nxt off cap 1) (cap - 1) 1, none⟩) n (cap - 1 - 1))) R _ N) := ⟨(hO6.other R (by omega)).trans hL5.blk, hL5.up, hL5.bel.trans (hO6.below (by have := hL5.up; omega))⟩
  have r0 : ((w5.setCell ⟨W.heap.size, 0, none⟩ (.int .u8 z0)).setCell ⟨W.heap.size, 1, none⟩ (.slice (some ⟨b, nxt (nxt off cap 1) (cap - 1) 1, none⟩) n (cap - 1 - 1))).heap[W.heap.size]? = some (.cells [.int .u8 z0, .slice (some ⟨b, nxt (nxt off cap 1) (cap - 1) 1, none⟩) n (cap - 1 - 1)].toArray 121) := by rw [blk_set (blk_set rb5 0 _) 1 _]; rfl
  have HLV : Hid _ := agg_loadVar (t := 121) Tryz.isAgg121 Tryz.sizeOf121 rfl (CellsAt.of_blk r0)
  clear hL5 hO5 hBT hO6 r0 rb5
  go_wp2
  refine bodyPost_ret (res1t rfl rfl HLV.out) rfl ?_
  exact ⟨_, _, rfl, HD.out, HS3.out, by have := HL6.out; rwa [List.length_drop] at this ⊢, HBT.out⟩

end Go.Proofs.YtnjkagopmfenkaaGreat.V4
namespace Go.Proofs.YtnjkagopmfenkaaGreat.V4
open Go Go.RowKit
set_option linter.unusedVariables false
set_option linter.unusedSimpArgs false

/-- Without the options of one byte that say nothing, at the front. -/
def skipL : List Int → List Int
  | [] => []
  | z :: r => if z = 1 then skipL r else z :: r
theorem skipL_le : ∀ ys : List Int, (skipL ys).length ≤ ys.length
  | [] => Nat.le_refl _
  | z :: r => by
    unfold skipL
    split
    · exact Nat.le_succ_of_le (skipL_le r)
    · exact Nat.le_refl _
theorem ListW.leftLen {w W : World} {R N : Nat} {s : Value} {ys : List Int} (h : ListW w W R s N) (hr : RowC w s ys) : leftLen W R = ys.length := by
  obtain ⟨_, _, a, cap, rfl, _⟩ := hr
  unfold Go.Proofs.YtnjkagopmfenkaaGreat.leftLen
  rw [blk_cell h.blk (j := 0) rfl]

theorem box2 {W : World} {Q : Nat} {x0 x1 : Value} (h : W.heap[Q]? = some (.cells [x0, x1].toArray 121)) (y0 y1 : Value) :
    (loadVar 121 ⟨Q, 0, none⟩).run Tryz.prog ((W.setCell ⟨Q, 0, none⟩ y0).setCell ⟨Q, 1, none⟩ y1) = .ok (.agg #[y0, y1]) ((W.setCell ⟨Q, 0, none⟩ y0).setCell ⟨Q, 1, none⟩ y1) ∧ Only Q W ((W.setCell ⟨Q, 0, none⟩ y0).setCell ⟨Q, 1, none⟩ y1) := by
  have r0 : ((W.setCell ⟨Q, 0, none⟩ y0).setCell ⟨Q, 1, none⟩ y1).heap[Q]? = some (.cells [y0, y1].toArray 121) := by rw [blk_set (blk_set h 0 _) 1 _]; rfl
  exact ⟨agg_loadVar (t := 121) Tryz.isAgg121 Tryz.sizeOf121 rfl (CellsAt.of_blk r0), ((Only.refl Q W).set 0 y0).set 1 y1⟩
theorem skipL_cons {z : Int} {r : List Int} (h : z ≠ 1) : skipL (z :: r) = z :: r := by unfold skipL; rw [if_neg h]

/-- What next answers. -/
def NextPost (w W : World) (R N : Nat) (zs : List Int) (e : Ending) (w' : World) : Prop :=
  ((zs = [] ∨ gz zs 0 = 0) ∧ e = .returned (.tuple #[.agg #[.int .u8 0, .slice none 0 0], .bool false]) ∧ Below w.heap.size w w' ∧ But R W w') ∨
  (zs ≠ [] ∧ gz zs 0 ≠ 0 ∧ badO zs ∧ e = .panicked [faultP ((N : Int) - zs.length) 47] ∧ Below w.heap.size w w' ∧ But R W w') ∨
  (zs ≠ [] ∧ gz zs 0 ≠ 0 ∧ ¬ badO zs ∧ ∃ d s', e = .returned (.tuple #[.agg #[.int .u8 (gz zs 0), d], .bool true]) ∧ BytesAt w.heap.size w d ((zs.drop 2).take ((gz zs 1).toNat - 2)) ∧ RowC w s' (zs.drop (gz zs 1).toNat) ∧ ListW w w' R s' N ∧ But R W w')

set_option maxHeartbeats 1000000 in
set_option maxRecDepth 100000 in
theorem next_calls {w W : World} {R N : Nat} {s : Value} {ys : List Int} (hr : RowC w s ys) (hL : ListW w W R s N) (hN : ys.length ≤ N) (hN2 : N ≤ 140737488351232) :
    Calls Tryz.prog 71 #[.pointer (some ⟨R, 0, none⟩)] W fun e w' => NextPost w W R N (skipL ys) e w' := by
  have hRW : R < W.heap.size := (Array.getElem?_eq_some_iff.1 hL.blk).1
  have HRB : Hid _ := blk_new W (.cells [.int .u8 0, .slice none 0 0].toArray 121)
  have HBUT : Hid (But R W (W.alloc (.cells #[.int .u8 0, .slice none 0 0] 121))) := (But.refl R W).alloc _
  have HL : Hid _ := hL.on ((Below.refl W.heap.size W).alloc (Nat.le_refl _) (.cells #[.int .u8 0, .slice none 0 0] 121))
  have HR : Hid _ := hr
  have HSZ : Hid (w.heap.size ≤ W.heap.size) := hL.bel.size
  have HNE : Hid (W.heap.size ≠ R) := by show W.heap.size ≠ R; omega
  clear hr hL
  go_enter Tryz.func71, Tryz.ntmps71
  go_wp2_with fail
  go_loopw [] (fun wr => ∃ zs s', skipL zs = skipL ys ∧ zs.length ≤ N ∧ RowC w s' zs ∧ ListW w wr R s' N ∧ But R W wr ∧ wr.heap[W.heap.size]? = some (.cells [.int .u8 0, .slice none 0 0].toArray 121)) (fun wr => leftLen wr R)
  case atStart => exact ⟨ys, s, rfl, hN, HR.out, HL.out, HBUT.out, HRB.out⟩
  case round =>
    obtain ⟨zs, s', hsk, hzN, hr, hL, hB, hrb⟩ := hrel
    have HLL : Hid _ := hL.leftLen hr
    have c0 := blk_cell hL.blk (j := 0) rfl
    have HBX : Hid _ := box2 hrb
    have b0 := blk_cell hrb (j := 0) rfl
    have b1 := blk_cell hrb (j := 1) rfl
    have f0 := blk_open hrb 0
    have f1 := blk_open hrb 1
    have HLW : Hid _ := hL
    have HRBX : Hid _ := hrb
    have HRW : Hid _ := hr
    have HB : Hid _ := hB
    have HSK : Hid _ := hsk
    have HEND : Hid (zs = [] ∨ gz zs 0 = 0 → NextPost w W R N (skipL ys) (.returned (.tuple #[.agg #[.int .u8 0, .slice none 0 0], .bool false])) ((wr.setCell ⟨W.heap.size, 0, none⟩ (.int .u8 0)).setCell ⟨W.heap.size, 1, none⟩ (.slice none 0 0))) := fun hz => by
      have e : skipL ys = zs := by
        rw [← hsk]
        cases zs with
        | nil => rfl
        | cons z r =>
          refine skipL_cons ?_
          have : gz (z :: r) 0 = z := rfl
          rcases hz with hz | hz
          · cases hz
          · omega
      rw [e]
      have ho := (box2 hrb (.int .u8 0) (.slice none 0 0)).2
      exact .inl ⟨hz, rfl, hL.bel.trans (ho.below HSZ.out), hB.off ho (Nat.le_refl _)⟩
    cases zs with
    | nil =>
      obtain ⟨_, _, a, cap, rfl, _⟩ := hr
      clear hL hrb hB hsk
      go_wp2
      refine bodyPost_ret (res2t rfl rfl (HBX.out _ _).1) rfl ?_
      exact HEND.out (by simp)
    | cons z r =>
      obtain ⟨b, off, cap, hS⟩ := hr.rowS (by simp)
      have hz0 := (hL.bel.cell (p := ⟨b, off, none⟩) hS.lt).trans (hS.cell 0 (by simp))
      rw [show gz (z :: r) 0 = z from rfl] at hz0
      have hzf : 0 ≤ z ∧ z < 256 := hS.fit z (by simp)
      have HS : Hid _ := hS
      rw [hS.val] at c0
      clear hL hrb hB hsk hr hS
      have hlen : ((z :: r).length : Int) = (r.length : Int) + 1 := by simp
      by_cases h0 : z = 0
      · subst h0
        go_wp2
        refine bodyPost_ret (res2t rfl rfl (HBX.out _ _).1) rfl ?_
        exact HEND.out (by simp [gz])
      · by_cases h1 : z = 1
        · subst h1
          have HOC : Hid _ := octet_row HS.out HLW.out (by simp)
          go_wp2_with fail
          refine Calls.mono HOC.out ?_
          rintro _ w2 ⟨rfl, hL2, hO2⟩
          have hS2 := HS.out.rest 1 (by simp)
          have hne := HNE.out
          have HF : Hid ((∃ zs s', skipL zs = skipL ys ∧ zs.length ≤ N ∧ RowC w s' zs ∧ ListW w w2 R s' N ∧ But R W w2 ∧ w2.heap[W.heap.size]? = some (.cells [.int .u8 0, .slice none 0 0].toArray 121)) ∧ leftLen w2 R < leftLen wr R) := by
            refine ⟨⟨r, _, ?_, ?_, hS2.row, hL2, HB.out.trans (.of_only hO2), ?_⟩, ?_⟩
            · have := HSK.out
              rwa [show skipL (1 :: r) = skipL r from rfl] at this
            · simp at hzN; omega
            · exact (hO2.other _ hne).trans HRBX.out
            · rw [HLL.out, hL2.leftLen hS2.row]
              simp
          clear hL2 hO2 hS2 hne
          go_wp2
          exact HF.out
        · have q0 : (z == 0) = false := by simp [h0]
          have q1 : (z == 1) = false := by simp [h1]
          have hsk : skipL ys = z :: r := by have := HSK.out; rw [skipL_cons h1] at this; exact this.symm
          have HK : Hid (skipL ys = z :: r) := hsk
          have hg0 : gz (z :: r) 0 = z := rfl
          by_cases hbad : badO (z :: r)
          · have HO : Hid _ := option_bad HRW.out HLW.out (by simp) hzN hN2 hbad
            have HF : Hid (∀ w2, Below w.heap.size w w2 → But R wr w2 → NextPost w W R N (skipL ys) (.panicked [faultP ((N : Int) - (z :: r).length) 47]) w2) := fun w2 hb hB2 => by
              rw [HK.out]
              exact .inr (.inl ⟨by simp, by rw [hg0]; exact h0, hbad, rfl, hb, HB.out.trans hB2⟩)
            clear hsk h0 h1 hbad hg0
            go_wp2_with fail
            refine Calls.mono HO.out ?_
            rintro _ w2 ⟨rfl, hb2, hB2⟩
            exact ⟨rfl, HF.out w2 hb2 hB2⟩
          · have HO : Hid _ := option_good HRW.out HLW.out (by simp) hzN hN2 hbad
            have HF : Hid (∀ d s' w2, BytesAt w.heap.size w d (((z :: r).drop 2).take ((gz (z :: r) 1).toNat - 2)) → RowC w s' ((z :: r).drop (gz (z :: r) 1).toNat) → ListW w w2 R s' N → But R W w2 → NextPost w W R N (skipL ys) (.returned (.tuple #[.agg #[.int .u8 z, d], .bool true])) w2) := fun d s' w2 h1' h2' h3' h4' => by
              rw [HK.out]
              exact .inr (.inr ⟨by simp, by rw [hg0]; exact h0, hbad, d, s', rfl, h1', h2', h3', h4'⟩)
            clear hsk h0 h1 hbad hg0
            go_wp2_with fail
            refine Calls.mono HO.out ?_
            rintro _ w2 ⟨d, s2, rfl, hd, hr2, hL2, hB2⟩
            have hne := HNE.out
            have rb2 := hB2.blk HRBX.out hne
            have B0 := blk_cell rb2 (j := 0) rfl
            have B1 := blk_cell rb2 (j := 1) rfl
            have F0 := blk_open rb2 0
            have F1 := blk_open rb2 1
            have HX2 : Hid _ := box2 rb2
            have ho := (box2 rb2 (.int .u8 z) d).2
            have HG : Hid (NextPost w W R N (skipL ys) (.returned (.tuple #[.agg #[.int .u8 z, d], .bool true])) ((w2.setCell ⟨W.heap.size, 0, none⟩ (.int .u8 z)).setCell ⟨W.heap.size, 1, none⟩ d)) :=
              HF.out d s2 _ hd hr2 ⟨(ho.other R (Ne.symm hne)).trans hL2.blk, hL2.up, hL2.bel.trans (ho.below HSZ.out)⟩ ((HB.out.trans hB2).off ho (Nat.le_refl _))
            obtain ⟨_, _, da, dc, hde, _⟩ := hd
            generalize (((z :: r).drop 2).take ((gz (z :: r) 1).toNat - 2)).length = dn at hde
            subst hde
            clear hr2 hL2 hB2 rb2 ho HO HF b0 b1 f0 f1 c0
            go_wp2
            refine bodyPost_ret (res2t rfl rfl (HX2.out _ _).1) rfl ?_
            exact HG.out

end Go.Proofs.YtnjkagopmfenkaaGreat.V4
namespace Go.Proofs.YtnjkagopmfenkaaGreat.V4
open Go Go.RowKit
set_option linter.unusedVariables false
set_option linter.unusedSimpArgs false

instance (ys : List Int) : Decidable (badO ys) := by unfold badO; infer_instance
/-- The options of bytes, and how many bytes are left at the first that is none. -/
def optsF : Nat → List Int → Opts × Option Nat
  | 0, _ => ([], none)
  | f + 1, ys =>
    if skipL ys = [] ∨ gz (skipL ys) 0 = 0 then ([], none) else if badO (skipL ys) then ([], some (skipL ys).length)
    else ((gz (skipL ys) 0, ((skipL ys).drop 2).take ((gz (skipL ys) 1).toNat - 2)) :: (optsF f ((skipL ys).drop (gz (skipL ys) 1).toNat)).1, (optsF f ((skipL ys).drop (gz (skipL ys) 1).toNat)).2)

set_option maxHeartbeats 1000000 in
theorem listed_calls (v : Value) (ys : List Int) (w : World) (h : RowC w v ys) :
    Calls Tryz.prog 70 #[v] w fun e w' => e = .returned (.pointer (some ⟨w.heap.size, 0, none⟩)) ∧ ListW w w' w.heap.size v ys.length ∧ Below w.heap.size w w' := by
  obtain ⟨_, _, a, cap, rfl, _⟩ := h
  have HB : Hid _ := (Below.refl w.heap.size w).alloc (Nat.le_refl _) (.cells [.slice a ys.length cap, .int .i64 ys.length].toArray 167)
  have HN : Hid _ := blk_new w (.cells [.slice a ys.length cap, .int .i64 ys.length].toArray 167)
  go_enter Tryz.func70, Tryz.ntmps70
  go_wp2
  go_ret
  exact ⟨rfl, ⟨HN.out, Nat.le_refl _, HB.out⟩, HB.out⟩

/-- The three results' boxes of Options. -/
structure BoxO (w0 W : World) (Q : Nat) (v : Value) (x y : Int) : Prop where
  vb : W.heap[Q]? = some (.cells [v].toArray 131)
  xb : W.heap[Q + 1]? = some (.cells [.int .i64 x].toArray 3)
  yb : W.heap[Q + 2]? = some (.cells [.int .i64 y].toArray 37)
  bel : Below w0.heap.size w0 W
  up : w0.heap.size ≤ Q
theorem BoxO.on {w0 W W' : World} {Q : Nat} {v : Value} {x y : Int} (h : BoxO w0 W Q v x y) (hb : Below W.heap.size W W') : BoxO w0 W' Q v x y :=
  ⟨blk_on h.vb hb, blk_on h.xb hb, blk_on h.yb hb, h.bel.trans (hb.mono h.bel.size), h.up⟩
theorem BoxO.but {w0 W W' : World} {Q R : Nat} {v : Value} {x y : Int} (h : BoxO w0 W Q v x y) (hb : But R W W') (hR : Q + 2 < R) : BoxO w0 W' Q v x y :=
  ⟨hb.blk h.vb (by omega), hb.blk h.xb (by omega), hb.blk h.yb (by omega), h.bel.trans (hb.below (by have := h.up; omega) h.bel.size), h.up⟩
theorem BoxO.start (w : World) : BoxO w (((w.alloc (.cells #[.slice none 0 0] 131)).alloc (.cells #[.int .i64 0] 3)).alloc (.cells #[.int .i64 0] 37)) w.heap.size (.slice none 0 0) 0 0 := by
  refine ⟨blk_alloc (blk_alloc (blk_new w _) _) _, ?_, ?_, ((((Below.refl w.heap.size w).alloc (Nat.le_refl _) _).alloc (by simp) _).alloc (by simp <;> omega) _), Nat.le_refl _⟩
  · have := blk_alloc (blk_new (w.alloc (.cells #[.slice none 0 0] 131)) (.cells #[.int .i64 0] 3)) (.cells #[.int .i64 0] 37)
    rwa [show (w.alloc (.cells #[.slice none 0 0] 131)).heap.size = w.heap.size + 1 by simp] at this
  · have := blk_new ((w.alloc (.cells #[.slice none 0 0] 131)).alloc (.cells #[.int .i64 0] 3)) (.cells #[.int .i64 0] 37)
    rwa [show ((w.alloc (.cells #[.slice none 0 0] 131)).alloc (.cells #[.int .i64 0] 3)).heap.size = w.heap.size + 2 by simp] at this

/-- The cells of a row of options. -/
def cellsL : Opts → List Value → List Value
  | [], _ => []
  | o :: os, ds => .int .u8 o.1 :: ds.headD undef :: cellsL os ds.tail
theorem cellsL_length : ∀ (os : Opts) (ds : List Value), (cellsL os ds).length = os.length * 2
  | [], _ => rfl
  | o :: os, ds => by simp [cellsL, cellsL_length os ds.tail]; omega
theorem cellsL_push : ∀ (os : Opts) (ds : List Value) (K : Int) (D : List Int) (u : Value), ds.length = os.length → cellsL (os ++ [(K, D)]) (ds ++ [u]) = cellsL os ds ++ [.int .u8 K, u]
  | [], [], K, D, u, _ => rfl
  | o :: os, d :: ds, K, D, u, h => by
    have := cellsL_push os ds K D u (by simpa using h)
    simp [cellsL, this]
theorem cellsL_at : ∀ (os : Opts) (ds : List Value) (j : Nat), j < os.length → (cellsL os ds)[j * 2]? = some (.int .u8 (oK os j)) ∧ (cellsL os ds)[j * 2 + 1]? = some (ds[j]?.getD undef)
  | o :: os, ds, 0, _ => by cases ds <;> simp [cellsL, oK]
  | o :: os, ds, j + 1, h => by
    have := cellsL_at os ds.tail j (by simpa using h)
    rw [show (j + 1) * 2 = j * 2 + 1 + 1 by omega, show j * 2 + 1 + 1 + 1 = (j * 2 + 1) + 1 + 1 by omega]
    refine ⟨?_, ?_⟩
    · simp only [cellsL, List.getElem?_cons_succ]
      rw [this.1]
      simp [oK]
    · simp only [cellsL, List.getElem?_cons_succ]
      rw [this.2]
      cases ds <;> simp

/-- A row of options of one's own: its block and those of its data lie from 'base' on and below 'top'. -/
structure OptRow (base top : Nat) (W : World) (v : Value) (os : Opts) (ds : List Value) : Prop where
  own : W.ownsRow base 121 2 v os.length (cellsL os ds)
  dl : ds.length = os.length
  fit : ∀ j, 0 ≤ oK os j ∧ oK os j < 256
  gl : ∀ g, v.ownBlock = some g → g < top
  dat : ∀ j, j < os.length → BytesAt W.heap.size W (ds[j]?.getD undef) (oD os j) ∧ ((oD os j).length = 0 ∨ ∃ b off n k, ds[j]?.getD undef = .slice (some ⟨b, off, none⟩) n k ∧ base ≤ b ∧ b < top ∧ v.ownBlock ≠ some b)
theorem OptRow.keep {base top : Nat} {W W' : World} {v : Value} {os : Opts} {ds : List Value} (h : OptRow base top W v os ds) (ht : top ≤ W.heap.size) (hs : W.heap.size ≤ W'.heap.size) (hk : ∀ j, base ≤ j → j < top → W'.heap[j]? = W.heap[j]?) : OptRow base top W' v os ds := by
  refine ⟨⟨h.own.1, ?_⟩, h.dl, h.fit, h.gl, fun j hj => ⟨?_, (h.dat j hj).2⟩⟩
  · rcases h.own.2 with h0 | ⟨g, cap, cur, rfl, hb, hg, r⟩
    · exact .inl h0
    · exact .inr ⟨g, cap, cur, rfl, hb, (hk g hb (h.gl g rfl)).trans hg, r⟩
  · obtain ⟨h1, h2⟩ := h.dat j hj
    refine bytes_keep h1 (h2.imp id ?_)
    rintro ⟨b, off, n, k, e, hb, ht', _⟩
    exact ⟨b, off, n, k, e, by omega, hk b hb ht'⟩
theorem OptRow.top {base top top' : Nat} {W : World} {v : Value} {os : Opts} {ds : List Value} (h : OptRow base top W v os ds) (ht : top ≤ top') : OptRow base top' W v os ds :=
  ⟨h.own, h.dl, h.fit, fun g hg => Nat.lt_of_lt_of_le (h.gl g hg) ht, fun j hj => ⟨(h.dat j hj).1, (h.dat j hj).2.imp id (fun ⟨b, off, n, k, e, h1, h2, h3⟩ => ⟨b, off, n, k, e, h1, Nat.lt_of_lt_of_le h2 ht, h3⟩)⟩⟩
theorem OptRow.nil (base top : Nat) (W : World) : OptRow base top W (.slice none 0 0) [] [] :=
  ⟨World.ownsRow_nil _ _ _ _, rfl, (fun j => by simp [oK]), (fun g hg => by cases hg), (fun j hj => by simp at hj)⟩
theorem OptRow.opts {base top : Nat} {W : World} {v : Value} {os : Opts} {ds : List Value} (h : OptRow base top W v os ds) (hl : os.length ≤ 140737488351232) : OptsAt W.heap.size W v os := by
  refine ⟨h.fit, hl, ?_⟩
  rcases h.own.2 with ⟨rfl, h0⟩ | ⟨g, cap, cur, rfl, hb, hg, _⟩
  · exact ⟨none, 0, by rw [h0], .inl h0⟩
  · refine ⟨_, cap, rfl, .inr ⟨g, 0, rfl, (Array.getElem?_eq_some_iff.1 hg).1, fun j hj => ?_⟩⟩
    have hc := cellsL_at os ds j hj
    have c0 := h.own.cells (g := g) rfl _ _ hc.1
    have c1 := h.own.cells (g := g) rfl _ _ hc.2
    rw [Go.WideShapes.add_plain] at c0 c1
    exact ⟨by simpa using c0, _, by simpa [Nat.add_assoc] using c1, (h.dat j hj).1⟩

theorem opt_info : (Tryz.prog.info? 121).map (fun i => (i.zero, i.size, i.bytes)) = some (some (.agg #[.int .u8 0, .slice none 0 0]), 2, 32) := by kernel_rfl
theorem OptRow.push {base top : Nat} {W : World} {v : Value} {os : Opts} {ds : List Value} (h : OptRow base top W v os ds) (ht : top ≤ W.heap.size) (hbase : base ≤ W.heap.size) {X : Nat} {K : Int} {u : Value} {D : List Int} (hX0 : W.cell? ⟨X, 0, none⟩ = some (.int .u8 K)) (hX1 : W.cell? ⟨X, 1, none⟩ = some u) (hK : 0 ≤ K ∧ K < 256)
    (hu : BytesAt W.heap.size W u D) (hl : D.length = 0 ∨ ∃ b off n k, u = .slice (some ⟨b, off, none⟩) n k ∧ base ≤ b ∧ b < W.heap.size ∧ v.ownBlock ≠ some b) (hn : os.length ≤ 1048576) (c : Nat) (ty : TypeId) :
    ∃ v' W', (Builtin.append_ #[131, 131] ty #[v, .slice (some ⟨X, 0, none⟩) 1 c]).run Tryz.prog W = .ok v' W' ∧ OptRow base W'.heap.size W' v' (os ++ [(K, D)]) (ds ++ [u]) ∧ W.grownBy W' v.ownBlock ∧ (∃ x n k, v' = .slice x n k) := by
  obtain ⟨i, hi, hz, hs, hby⟩ := info_parts opt_info
  have hone : u.oneCell' = true := by obtain ⟨_, _, a, k, rfl, _⟩ := hu; rfl
  have hnews : ∀ j w, ([.int .u8 K, u] : List Value)[j]? = some w → W.cell? ((⟨X, 0, none⟩ : Addr).add j) = some w := by
    intro j w hj
    rw [Go.WideShapes.add_plain]
    match j, hj with
    | 0, hj => simp at hj; subst hj; exact hX0
    | 1, hj => simp at hj; subst hj; exact hX1
    | j + 2, hj => simp at hj
  have hall1 : ∀ w ∈ ([.int .u8 K, u] : List Value), w.oneCell' = true := by
    intro w hw
    simp only [List.mem_cons, List.not_mem_nil, or_false] at hw
    rcases hw with rfl | rfl
    · rfl
    · exact hone
  have h63 : os.length + 1 ≤ maxLen := by unfold maxLen; omega
  have hbb : (os.length + 1) * 32 ≤ 140737488355328 := by omega
  obtain ⟨v', W', hrun, r1, r2, _⟩ := run_append_own (P := Tryz.prog) W base 131 ty 121 i _ 2 32 Tryz.underlying131 hi hz hs hby rfl (by decide) v os.length _ h.own ⟨X, 0, none⟩ 1 c [.int .u8 K, u] rfl hnews hall1 h63 hbb hbase
  have hfresh : v'.ownBlock = v.ownBlock ∨ ∀ k, v'.ownBlock = some k → W.heap.size ≤ k := by
    rcases h.own.2 with ⟨rfl, h0⟩ | ⟨g, cap, cur, rfl, hbg, hg, hnc, hcm, hcs, htake⟩
    · have ho : W.ownsRow W.heap.size 121 2 (.slice none 0 0) os.length (cellsL os ds) := by
        have hos : os = [] := List.length_eq_zero_iff.1 h0
        rw [hos]
        exact World.ownsRow_nil _ _ _ _
      obtain ⟨v2, w2, hrun2, q1, _, _⟩ := run_append_own (P := Tryz.prog) W W.heap.size 131 ty 121 i _ 2 32 Tryz.underlying131 hi hz hs hby rfl (by decide) _ os.length _ ho ⟨X, 0, none⟩ 1 c [.int .u8 K, u] rfl hnews hall1 h63 hbb (Nat.le_refl _)
      rw [hrun] at hrun2
      cases hrun2
      exact .inr (fun k hk => (q1.lt k hk).1)
    · by_cases hroom : os.length + 1 ≤ cap
      · have hr := run_append_room (P := Tryz.prog) W 131 ty 121 i Tryz.underlying131 hi g os.length cap cur hg ⟨X, 0, none⟩ 1 c [.int .u8 K, u] (by rw [hs]; rfl) hnews hall1 hroom (by rw [hs]; simp; omega)
        rw [hrun] at hr
        cases hr
        exact .inl rfl
      · have holds : ∀ (j : Nat) u, (cellsL os ds)[j]? = some u → W.cell? ((⟨g, 0, none⟩ : Addr).add j) = some u := h.own.cells (g := g) rfl
        have hr := run_append_grow (P := Tryz.prog) W 131 ty 121 i _ Tryz.underlying131 hi hz ⟨g, 0, none⟩ os.length cap (cellsL os ds) (by rw [hs]; exact h.own.1) holds ⟨X, 0, none⟩ 1 c [.int .u8 K, u] (by rw [hs]; rfl) hnews (by omega) (by unfold maxLen at h63; omega) (growslice_fits (by omega) (by rw [hby]; exact hbb))
        rw [hrun] at hr
        cases hr
        exact .inr (fun k hk => by simp [Value.ownBlock] at hk; omega)
  have hK' : ∀ j, 0 ≤ oK (os ++ [(K, D)]) j ∧ oK (os ++ [(K, D)]) j < 256 := fun j => by
    by_cases hj : j < os.length
    · have := h.fit j
      simpa [oK, List.getElem?_append, hj] using this
    · by_cases e : j = os.length
      · subst e; simpa [oK] using hK
      · have : (os ++ [(K, D)])[j]? = none := List.getElem?_eq_none (by simp; omega)
        simp [oK, this]
  have hdat : ∀ j, j < os.length + 1 → BytesAt W.heap.size W ((ds ++ [u])[j]?.getD undef) (oD (os ++ [(K, D)]) j) ∧ ((oD (os ++ [(K, D)]) j).length = 0 ∨ ∃ b off n k, (ds ++ [u])[j]?.getD undef = .slice (some ⟨b, off, none⟩) n k ∧ base ≤ b ∧ b < W.heap.size ∧ v.ownBlock ≠ some b) := fun j hj => by
    have hdl := h.dl
    by_cases hj2 : j < os.length
    · obtain ⟨h1, h2⟩ := h.dat j hj2
      have e1 : (ds ++ [u])[j]? = ds[j]? := List.getElem?_append_left (by omega)
      have e2 : oD (os ++ [(K, D)]) j = oD os j := by simp [oD, List.getElem?_append, hj2]
      rw [e1, e2]
      exact ⟨h1, h2.imp id (fun ⟨b, off, n, k, e, q1, q2, q3⟩ => ⟨b, off, n, k, e, q1, by omega, q3⟩)⟩
    · obtain rfl : j = os.length := by omega
      have e1 : (ds ++ [u])[os.length]? = some u := by rw [← hdl]; simp
      have e2 : oD (os ++ [(K, D)]) os.length = D := by simp [oD]
      rw [e1, e2]
      exact ⟨hu, hl⟩
  refine ⟨v', W', hrun, ⟨?_, by simp [h.dl], hK', fun g hg => (r1.lt g hg).2, fun j hj => ?_⟩, r2, ?_⟩
  · rw [cellsL_push os ds K D u h.dl]
    simpa using r1
  · obtain ⟨h1, h2⟩ := hdat j (by simpa using hj)
    refine ⟨bytes_keep h1 (h2.imp id ?_), h2.imp id ?_⟩
    · rintro ⟨b, off, n, k, e, q1, q2, q3⟩
      exact ⟨b, off, n, k, e, Nat.lt_of_lt_of_le q2 r2.size, r2.block b q2 (fun e => q3 e.symm)⟩
    · rintro ⟨b, off, n, k, e, q1, q2, q3⟩
      refine ⟨b, off, n, k, e, q1, Nat.lt_of_lt_of_le q2 r2.size, ?_⟩
      rcases hfresh with hf | hf
      · rw [hf]; exact q3
      · intro e'
        have := hf b e'
        omega
  · rcases r1.2 with ⟨e, _⟩ | ⟨g, cap, cur, e, _⟩
    · exact ⟨_, _, _, e⟩
    · exact ⟨_, _, _, e⟩

end Go.Proofs.YtnjkagopmfenkaaGreat.V4
namespace Go.Proofs.YtnjkagopmfenkaaGreat.V4
open Go Go.RowKit
set_option linter.unusedVariables false
set_option linter.unusedSimpArgs false

theorem BoxO.setV {w0 W : World} {Q : Nat} {v : Value} {x y : Int} (h : BoxO w0 W Q v x y) (u : Value) : BoxO w0 (W.setCell ⟨Q, 0, none⟩ u) Q u x y :=
  ⟨by rw [blk_set h.vb]; rfl, blk_set_other h.xb (by omega) _ _, blk_set_other h.yb (by omega) _ _, h.bel.setCell (by have := h.up; simp; omega) _, h.up⟩
theorem BoxO.setX {w0 W : World} {Q : Nat} {v : Value} {x y : Int} (h : BoxO w0 W Q v x y) (z : Int) : BoxO w0 (W.setCell ⟨Q + 1, 0, none⟩ (.int .i64 z)) Q v z y :=
  ⟨blk_set_other h.vb (by omega) _ _, by rw [blk_set h.xb]; rfl, blk_set_other h.yb (by omega) _ _, h.bel.setCell (by have := h.up; simp; omega) _, h.up⟩
theorem BoxO.setY {w0 W : World} {Q : Nat} {v : Value} {x y : Int} (h : BoxO w0 W Q v x y) (z : Int) : BoxO w0 (W.setCell ⟨Q + 2, 0, none⟩ (.int .i64 z)) Q v x z :=
  ⟨blk_set_other h.vb (by omega) _ _, blk_set_other h.xb (by omega) _ _, by rw [blk_set h.yb]; rfl, h.bel.setCell (by have := h.up; simp; omega) _, h.up⟩
theorem BoxO.drew {w0 W : World} {Q : Nat} {v : Value} {x y : Int} (h : BoxO w0 W Q v x y) : BoxO w0 W.drew Q v x y := ⟨h.vb, h.xb, h.yb, h.bel.drew, h.up⟩

theorem tmps15 (a b c : Value) : (#[a, b, c] ++ Array.replicate (15 - #[a, b, c].size) undef : Array Value) = #[a, b, c, undef, undef, undef, undef, undef, undef, undef, undef, undef, undef, undef, undef] := rfl

theorem BoxO.load {w0 W : World} {Q : Nat} {v : Value} {x y : Int} (h : BoxO w0 W Q v x y) (hv : ∃ a n k, v = .slice a n k) : (loadVar 131 ⟨Q, 0, none⟩).run Tryz.prog W = .ok v W := by
  obtain ⟨a, n, k, rfl⟩ := hv
  have := blk_cell h.vb (j := 0) rfl
  simp [loadVar, go_sem, this]
theorem BoxO.loadX {w0 W : World} {Q : Nat} {v : Value} {x y : Int} (h : BoxO w0 W Q v x y) : (loadVar 3 ⟨Q + 1, 0, none⟩).run Tryz.prog W = .ok (.int .i64 x) W := by
  have := blk_cell h.xb (j := 0) rfl
  simp [loadVar, go_sem, this]
theorem BoxO.loadY {w0 W : World} {Q : Nat} {v : Value} {x y : Int} (h : BoxO w0 W Q v x y) : (loadVar 37 ⟨Q + 2, 0, none⟩).run Tryz.prog W = .ok (.int .i64 y) W := by
  have := blk_cell h.yb (j := 0) rfl
  simp [loadVar, go_sem, this]

end Go.Proofs.YtnjkagopmfenkaaGreat.V4
namespace Go.Proofs.YtnjkagopmfenkaaGreat.V4
open Go Go.RowKit
set_option linter.unusedVariables false
set_option linter.unusedSimpArgs false

section
variable {f : Nat} {rest : List Int}
theorem optsF_fin (h : skipL rest = [] ∨ gz (skipL rest) 0 = 0) : optsF f rest = ([], none) := by
  cases f with
  | zero => rfl
  | succ f => rw [optsF, if_pos h]
theorem optsF_bad (h : ¬ (skipL rest = [] ∨ gz (skipL rest) 0 = 0)) (hb : badO (skipL rest)) : optsF (f + 1) rest = ([], some (skipL rest).length) := by rw [optsF, if_neg h, if_pos hb]
theorem optsF_opt (h : ¬ (skipL rest = [] ∨ gz (skipL rest) 0 = 0)) (hb : ¬ badO (skipL rest)) : optsF (f + 1) rest = ((gz (skipL rest) 0, ((skipL rest).drop 2).take ((gz (skipL rest) 1).toNat - 2)) :: (optsF f ((skipL rest).drop (gz (skipL rest) 1).toNat)).1, (optsF f ((skipL rest).drop (gz (skipL rest) 1).toNat)).2) := by rw [optsF, if_neg h, if_neg hb]
theorem skipL_mem : ∀ (ys : List Int) (z : Int), z ∈ skipL ys → z ∈ ys
  | [], z, h => h
  | y :: r, z, h => by
    unfold skipL at h
    split at h
    · exact List.mem_cons_of_mem _ (skipL_mem r z h)
    · exact h
theorem drop_less (h : ¬ badO (skipL rest)) : ((skipL rest).drop (gz (skipL rest) 1).toNat).length + 2 ≤ rest.length := by
  have := skipL_le rest
  unfold badO at h
  simp
  omega
end
/-- What Options answers. -/
def OptsIs (ys : List Int) (os : Opts) (at' er : Int) : Prop :=
  ((optsF (ys.length + 1) ys).2 = none ∧ os = (optsF (ys.length + 1) ys).1 ∧ at' = 0 ∧ er = 0) ∨ (∃ m, (optsF (ys.length + 1) ys).2 = some m ∧ os = [] ∧ at' = (ys.length : Int) - (m : Nat) ∧ er = 47)
def OptsPost (ys : List Int) (w : World) (e : Ending) (w' : World) : Prop :=
  ∃ v os at' er, e = .returned (.tuple #[v, .int .i64 at', .int .i64 er]) ∧ OptsAt w'.heap.size w' v os ∧ Below w.heap.size w w' ∧ OptsIs ys os at' er
/-- How far the options are read: those that are in the row, and the bytes that are left. -/
structure PreO (ys : List Int) (os : Opts) (rest : List Int) (f : Nat) : Prop where
  eq : optsF (ys.length + 1) ys = (os ++ (optsF f rest).1, (optsF f rest).2)
  fuel : rest.length < f
  len : os.length + rest.length ≤ ys.length
theorem PreO.start (ys : List Int) : PreO ys [] ys (ys.length + 1) := ⟨rfl, by omega, by simp⟩
theorem PreO.next {ys : List Int} {os : Opts} {rest : List Int} {f : Nat} (h : PreO ys os rest f) (h1 : ¬ (skipL rest = [] ∨ gz (skipL rest) 0 = 0)) (hb : ¬ badO (skipL rest)) :
    PreO ys (os ++ [(gz (skipL rest) 0, ((skipL rest).drop 2).take ((gz (skipL rest) 1).toNat - 2))]) ((skipL rest).drop (gz (skipL rest) 1).toNat) (f - 1) := by
  have hl := drop_less hb
  have hf := h.fuel
  have hn := h.len
  obtain ⟨g, rfl⟩ : ∃ g, f = g + 1 := ⟨f - 1, by omega⟩
  refine ⟨?_, by simp at hl ⊢; omega, by simp at hl ⊢; omega⟩
  rw [h.eq, optsF_opt h1 hb]
  simp
theorem PreO.fin {ys : List Int} {os : Opts} {rest : List Int} {f : Nat} (h : PreO ys os rest f) (h1 : skipL rest = [] ∨ gz (skipL rest) 0 = 0) : OptsIs ys os 0 0 := by
  have := h.eq
  rw [optsF_fin h1] at this
  refine .inl ⟨by rw [this], by rw [this]; simp, rfl, rfl⟩
theorem PreO.bad {ys : List Int} {os : Opts} {rest : List Int} {f : Nat} (h : PreO ys os rest f) (h1 : ¬ (skipL rest = [] ∨ gz (skipL rest) 0 = 0)) (hb : badO (skipL rest)) : OptsIs ys [] ((ys.length : Int) - (skipL rest).length) 47 := by
  have hf := h.fuel
  obtain ⟨g, rfl⟩ : ∃ g, f = g + 1 := ⟨f - 1, by omega⟩
  have := h.eq
  rw [optsF_bad h1 hb] at this
  exact .inr ⟨(skipL rest).length, by rw [this], rfl, rfl, rfl⟩

/-- The loop's state. -/
def LoopO (w : World) (R : Nat) (ys : List Int) (o m : Value) (wr : World) : Prop :=
  ∃ os ds v O, o = .pointer (some ⟨O, 0, none⟩) ∧ BoxO w wr w.heap.size v 0 0 ∧ OptRow (R + 1) O wr v os ds ∧ R + 1 ≤ O ∧ O < wr.heap.size ∧ os.length ≤ ys.length ∧ (∃ a n k, v = .slice a n k) ∧
    ((m = .bool false ∧ OptsIs ys os 0 0) ∨
     (m = .bool true ∧ ∃ K d D rest s f, wr.heap[O]? = some (.cells [.int .u8 K, d].toArray 121) ∧ (0 ≤ K ∧ K < 256) ∧ BytesAt w.heap.size w d D ∧ RowC w s rest ∧ ListW w wr R s ys.length ∧ PreO ys (os ++ [(K, D)]) rest f))
def measO (R : Nat) (m : Value) (wr : World) : Nat := match m with | .bool true => leftLen wr R + 1 | _ => 0

theorem OptRow.setc {base top : Nat} {W : World} {v : Value} {os : Opts} {ds : List Value} (h : OptRow base top W v os ds) (ht : top ≤ W.heap.size) {X : Nat} (hX : X < base ∨ top ≤ X) (i : Nat) (u : Value) : OptRow base top (W.setCell ⟨X, i, none⟩ u) v os ds := by
  have ho := (Only.refl X W).set i u
  exact h.keep ht (by rw [ho.size]; exact Nat.le_refl _) (fun j h1 h2 => ho.other j (by omega))
theorem OptRow.on {base top : Nat} {W W' : World} {v : Value} {os : Opts} {ds : List Value} (h : OptRow base top W v os ds) (ht : top ≤ W.heap.size) (hb : Below W.heap.size W W') : OptRow base top W' v os ds :=
  h.keep ht hb.size (fun j _ h2 => hb.block j (by omega))
theorem OptRow.but {base top R : Nat} {W W' : World} {v : Value} {os : Opts} {ds : List Value} (h : OptRow base top W v os ds) (ht : top ≤ W.heap.size) (hb : But R W W') (hR : R < base) : OptRow base top W' v os ds :=
  h.keep ht hb.size (fun j h1 h2 => hb.other j (by omega) (by omega))
theorem BoxO.same {w0 W W' : World} {Q : Nat} {v : Value} {x y : Int} (h : BoxO w0 W Q v x y) (hb : Below w0.heap.size W W') (hk : ∀ j, j ≤ Q + 2 → W'.heap[j]? = W.heap[j]?) : BoxO w0 W' Q v x y :=
  ⟨(hk Q (by omega)).trans h.vb, (hk (Q + 1) (by omega)).trans h.xb, (hk (Q + 2) (by omega)).trans h.yb, h.bel.trans hb, h.up⟩
def NxO (w w' : World) (R N : Nat) (rest : List Int) (K : Int) (d : Value) (m : Bool) : Prop :=
  (m = false ∧ (skipL rest = [] ∨ gz (skipL rest) 0 = 0)) ∨
  (m = true ∧ ¬ (skipL rest = [] ∨ gz (skipL rest) 0 = 0) ∧ ¬ badO (skipL rest) ∧ K = gz (skipL rest) 0 ∧ BytesAt w.heap.size w d (((skipL rest).drop 2).take ((gz (skipL rest) 1).toNat - 2)) ∧ ∃ s', RowC w s' ((skipL rest).drop (gz (skipL rest) 1).toNat) ∧ ListW w w' R s' N)
theorem NextPost.split {w W w' : World} {R N : Nat} {rest : List Int} {e : Ending} (h : NextPost w W R N (skipL rest) e w') (hu : w.heap.size ≤ R) (hw : Below w.heap.size w W) :
    (¬ (skipL rest = [] ∨ gz (skipL rest) 0 = 0) ∧ badO (skipL rest) ∧ e = .panicked [faultP ((N : Int) - (skipL rest).length) 47] ∧ Below w.heap.size w w' ∧ But R W w') ∨
    (∃ K da dn dc m, e = .returned (.tuple #[.agg #[.int .u8 K, .slice da dn dc], .bool m]) ∧ Below w.heap.size w w' ∧ But R W w' ∧ NxO w w' R N rest K (.slice da dn dc) m) := by
  rcases h with ⟨hz, rfl, hb2, hB2⟩ | ⟨hz1, hz2, hbad, rfl, hb2, hB2⟩ | ⟨hz1, hz2, hgood, d, s', rfl, hd, hr2, hL2, hB2⟩
  · exact .inr ⟨0, none, 0, 0, false, rfl, hb2, hB2, .inl ⟨rfl, hz⟩⟩
  · exact .inl ⟨fun c => c.elim hz1 hz2, hbad, rfl, hb2, hB2⟩
  · have hd' := hd
    obtain ⟨_, _, da, dc, hde, _⟩ := hd
    subst hde
    exact .inr ⟨_, _, _, _, true, rfl, hL2.bel, hB2, .inr ⟨rfl, fun c => c.elim hz1 hz2, hgood, rfl, hd', s', hr2, hL2⟩⟩
theorem LoopO.of_next {w W : World} {R : Nat} {ys rest : List Int} {os : Opts} {ds : List Value} {v : Value} {f O : Nat} {K : Int} {d : Value} {m : Bool} (hB : BoxO w W w.heap.size v 0 0) (hR : OptRow (R + 1) O W v os ds) (h1 : R + 1 ≤ O) (h2 : O < W.heap.size) (hv : ∃ a n k, v = .slice a n k) (hP : PreO ys os rest f) (hO : W.heap[O]? = some (.cells [.int .u8 K, d].toArray 121)) (hf : Fit rest) (hN : NxO w W R ys.length rest K d m) :
    LoopO w R ys (.pointer (some ⟨O, 0, none⟩)) (.bool m) W := by
  refine ⟨os, ds, v, O, rfl, hB, hR, h1, h2, by have := hP.len; omega, hv, ?_⟩
  rcases hN with ⟨rfl, hz⟩ | ⟨rfl, hz, hb, rfl, hd, s', hr, hL⟩
  · exact .inl ⟨rfl, hP.fin hz⟩
  · refine .inr ⟨rfl, _, d, _, _, s', _, hO, ?_, hd, hr, hL, hP.next hz hb⟩
    have : Fit (skipL rest) := fun z hz => hf z (skipL_mem _ _ hz)
    exact this.gz 0

end Go.Proofs.YtnjkagopmfenkaaGreat.V4

namespace Go.Proofs.YtnjkagopmfenkaaGreat.V4
open Go Go.RowKit
set_option linter.unusedVariables false
set_option linter.unusedSimpArgs false

def flatL : Opts → List Int
  | [] => []
  | o :: os => o.1 :: ((2 + o.2.length : Nat) : Int) :: (o.2 ++ flatL os)
theorem flatL_append : ∀ (a b : Opts), flatL (a ++ b) = flatL a ++ flatL b
  | [], b => rfl
  | o :: a, b => by simp [flatL, flatL_append a b]
theorem oFlat_take (os : Opts) : ∀ k, k ≤ os.length → oFlat os k = flatL (os.take k)
  | 0, _ => rfl
  | k + 1, h => by
    have hk : k < os.length := by omega
    have e : os[k]? = some os[k] := List.getElem?_eq_getElem hk
    rw [List.take_succ_eq_append_getElem hk, flatL_append, oFlat, oFlat_take os k (by omega)]
    simp [oK, oD, e, flatL]
theorem opts_zero (f m : Nat) : optsF f (List.replicate m 0) = ([], none) := by
  refine optsF_fin ?_
  cases m with
  | zero => exact .inl rfl
  | succ m =>
    right
    rw [List.replicate_succ, skipL_cons (by decide)]
    rfl
theorem opts_flat : ∀ (os : Opts) (m f : Nat), (∀ o ∈ os, 2 ≤ o.1 ∧ o.2.length ≤ 38) → os.length < f → optsF f (flatL os ++ List.replicate m 0) = (os, none)
  | [], m, f, _, _ => opts_zero f m
  | o :: os, m, f, h, hf => by
    obtain ⟨g, rfl⟩ : ∃ g, f = g + 1 := ⟨f - 1, by simp at hf; omega⟩
    obtain ⟨h1, h2⟩ := h o (by simp)
    have hs : skipL (flatL (o :: os) ++ List.replicate m 0) = flatL (o :: os) ++ List.replicate m 0 := by
      show skipL (o.1 :: _) = _
      exact skipL_cons (by omega)
    have e0 : gz (flatL (o :: os) ++ List.replicate m 0) 0 = o.1 := rfl
    have e1 : gz (flatL (o :: os) ++ List.replicate m 0) 1 = ((2 + o.2.length : Nat) : Int) := rfl
    have ht : (((2 + o.2.length : Nat) : Int)).toNat = 2 + o.2.length := by omega
    have hd : (flatL (o :: os) ++ List.replicate m 0).drop 2 = o.2 ++ (flatL os ++ List.replicate m 0) := by simp [flatL]
    have ih := opts_flat os m g (fun q hq => h q (by simp [hq])) (by simp at hf; omega)
    have hnz : ¬ (skipL (flatL (o :: os) ++ List.replicate m 0) = [] ∨ gz (skipL (flatL (o :: os) ++ List.replicate m 0)) 0 = 0) := by
      rw [hs, e0]
      intro c
      rcases c with c | c
      · simp [flatL] at c
      · omega
    have hnb : ¬ badO (skipL (flatL (o :: os) ++ List.replicate m 0)) := by
      rw [hs]
      unfold badO
      rw [e1]
      simp [flatL]
      omega
    rw [optsF_opt hnz hnb, hs, e0, e1, ht, show 2 + o.2.length - 2 = o.2.length by omega, ← List.drop_drop, hd]
    simp [ih]
theorem opts_pack {os : Opts} (h : oAll os os.length) (hl : (packR os os.length).length + 1 > os.length) : optsF ((packR os os.length).length + 1) (packR os os.length) = (os, none) := by
  have e : packR os os.length = flatL os ++ List.replicate (up4 (oTot os os.length) - oTot os os.length) 0 := by
    rw [packR, oFlat_take os os.length (Nat.le_refl _), List.take_length]
  rw [e] at hl ⊢
  refine opts_flat os _ _ (fun o ho => ?_) (by omega)
  obtain ⟨j, hj, rfl⟩ := List.getElem_of_mem ho
  have := h j hj
  have e : os[j]? = some os[j] := List.getElem?_eq_getElem hj
  simpa [oGood, oK, oD, e] using this

theorem oTot_ge {os : Opts} : ∀ k, k * 2 ≤ oTot os k
  | 0 => by simp
  | k + 1 => by
    have := oTot_ge (os := os) k
    simp only [oTot]
    omega
theorem opts_pack_len {os : Opts} (h : oAll os os.length) : os.length ≤ (packR os os.length).length := by
  rw [packR_length (Nat.le_refl _)]
  have := oTot_ge (os := os) os.length
  unfold up4
  omega

end Go.Proofs.YtnjkagopmfenkaaGreat.V4
namespace Go.Proofs.YtnjkagopmfenkaaGreat.V4
open Go Go.RowKit Go.ChangeShapes Go.WideShapes Go.ChangeAt
set_option linter.unusedVariables false
set_option linter.unusedSimpArgs false

set_option maxRecDepth 100000 in
theorem open_opts {H : Type} {enc : TypeId × Value → H} {W : World} {base : Nat} {v : Value} {d : DataW H} {p : List MemPlace} (hval : Value.okWide Tryz.prog W .any base 131 v)
    (h : DataW.Trod enc Tryz.prog W 0 (fun _ => true) true 131 v d p) (hz : ∀ k ∈ d.weights Tryz.prog 131, k ≤ reachBytes) : ∃ os, OptsAt W.heap.size W v os := by
  obtain ⟨a, len, cap, rfl⟩ := okWide_slice Tryz.underlying131 hval
  obtain ⟨fuel, hf⟩ := h
  rcases Go.Deep.open_slice_pairs Tryz.underlying131 Tryz.underlying121 (by kernel_rfl) rfl rfl (by kernel_rfl) (by kernel_rfl) hf with ⟨hcs, _⟩ | ⟨x, l, c, m, n, V0, V1, D0, D1, P0, P1, hcs, _, hl, hm, hmm, hx, hr⟩
  · simp [Value.cells] at hcs
    obtain ⟨rfl, rfl, rfl⟩ := hcs
    exact ⟨[], fun j => by simp [oK], by simp, none, 0, rfl, .inl rfl⟩
  · simp [Value.cells] at hcs
    obtain ⟨rfl, rfl, rfl⟩ := hcs
    simp only [if_true] at hmm
    subst hmm
    obtain ⟨rfl, _⟩ := Prod.mk.inj hx
    have hlen : len ≤ 140737488351232 := by
      have hb : Tryz.prog.bytesOf 121 = 32 := by kernel_rfl
      have := hz _ (by simp only [DataW.weights, Tryz.underlying131]; exact List.mem_cons_self)
      have e : reachBytes = 140737488351232 := by kernel_rfl
      rw [e, hb] at this
      simp at this
      omega
    have each : ∀ i, i < len → ∃ z : Int × List Int, V0 i = .int .u8 z.1 ∧ (0 ≤ z.1 ∧ z.1 < 256) ∧ BytesAt W.heap.size W (V1 i) z.2 := by
      intro i hi
      obtain ⟨_, _, r0, r1⟩ := hr i (by omega)
      obtain ⟨z0, e0, _, w0⟩ := DataW.trod_int Tryz.underlying5 r0
      have hb := bounds_u8 w0
      obtain ⟨v', zs, ev, hby⟩ := open_bytes1 r1 (fun k hk => hz k (by
        simp only [DataW.weights, Tryz.underlying131]
        refine List.mem_cons_of_mem _ (List.mem_append_left _ (weights_mem_all (d := .agg [D0 i, D1 i]) (List.mem_map.2 ⟨i, List.mem_range.2 hi, rfl⟩) k ?_))
        simp only [DataW.weights, Tryz.underlying121]
        exact DataW.weights_mem_each (j := 1) rfl rfl k hk))
      simp at e0 ev
      subst ev
      exact ⟨(z0, zs), e0, by simp; omega, hby⟩
    obtain ⟨os, ho⟩ : ∃ os : Opts, os.length = len ∧ ∀ i, i < len → V0 i = .int .u8 (oK os i) ∧ (0 ≤ oK os i ∧ oK os i < 256) ∧ BytesAt W.heap.size W (V1 i) (oD os i) := by
      obtain ⟨q, hq⟩ := Go.Deep.choose_lt each
      refine ⟨(List.range len).map q, by simp, fun i hi => ?_⟩
      have := hq i hi
      simpa [oK, oD, hi] using this
    refine ⟨os, fun j => ?_, by omega, some x, m, by rw [ho.1], ?_⟩
    · by_cases hj : j < len
      · exact (ho.2 j hj).2.1
      · have : os[j]? = none := List.getElem?_eq_none (by omega)
        simp [oK, this]
    · by_cases h0 : len = 0
      · exact .inl (by omega)
      · right
        have hr0 := (hr 0 (by omega)).1
        obtain ⟨b, off, spot⟩ := x
        have hspot : spot = none := by simpa [Addr.add] using World.cell?_spot hr0
        subst hspot
        refine ⟨b, off, rfl, by have := cell_block hr0; simpa [Addr.add] using this, fun j hj => ?_⟩
        obtain ⟨q0, q1, _, _⟩ := hr j (by omega)
        obtain ⟨e0, _, hb⟩ := ho.2 j (by omega)
        rw [add_plain] at q0 q1
        rw [e0] at q0
        exact ⟨q0, V1 j, q1, hb⟩

end Go.Proofs.YtnjkagopmfenkaaGreat.V4

namespace Go.Proofs.YtnjkagopmfenkaaGreat.V4
open Go Go.RowKit
set_option linter.unusedVariables false
set_option linter.unusedSimpArgs false

theorem optsF_skip (f : Nat) (r : List Int) : optsF f (1 :: r) = optsF f r := by
  cases f with
  | zero => rfl
  | succ f => simp only [optsF, show skipL (1 :: r) = skipL r from rfl]
theorem PreO.skip {ys : List Int} {os : Opts} {r : List Int} {f : Nat} (h : PreO ys os (1 :: r) f) : PreO ys os r f :=
  ⟨by rw [h.eq, optsF_skip], by have := h.fuel; simp at this; omega, by have := h.len; simp at this; omega⟩
theorem PreO.bad2 {ys : List Int} {os : Opts} {rest : List Int} {f : Nat} (h : PreO ys os rest f) (h1 : ¬ (skipL rest = [] ∨ gz (skipL rest) 0 = 0)) (hb : badO (skipL rest)) : (optsF (ys.length + 1) ys).1 = os ∧ (optsF (ys.length + 1) ys).2 = some (skipL rest).length := by
  have hf := h.fuel
  obtain ⟨g, rfl⟩ : ∃ g, f = g + 1 := ⟨f - 1, by omega⟩
  have := h.eq
  rw [optsF_bad h1 hb] at this
  rw [this]
  simp
theorem PreO.fin2 {ys : List Int} {os : Opts} {rest : List Int} {f : Nat} (h : PreO ys os rest f) (h1 : skipL rest = [] ∨ gz (skipL rest) 0 = 0) : (optsF (ys.length + 1) ys).1 = os ∧ (optsF (ys.length + 1) ys).2 = none := by
  have := h.eq
  rw [optsF_fin h1] at this
  rw [this]
  simp
theorem drop_cons {ys : List Int} {k : Nat} (h : k < ys.length) : ys.drop k = gz ys k :: ys.drop (k + 1) := by
  rw [List.drop_eq_getElem_cons h]
  simp [gz, h]
/-- What the document's Options answers. -/
def ROptsPost (ys : List Int) (w : World) (e : Ending) (w' : World) : Prop :=
  ∃ v at' er, e = .returned (.tuple #[v, .int .i64 at', .int .i64 er]) ∧ OptsAt w'.heap.size w' v (optsF (ys.length + 1) ys).1 ∧ Below w.heap.size w w' ∧
    (((optsF (ys.length + 1) ys).2 = none ∧ at' = 0 ∧ er = 0) ∨ (∃ m, (optsF (ys.length + 1) ys).2 = some m ∧ at' = (ys.length : Int) - (m : Nat) ∧ er = 47))

set_option maxHeartbeats 1500000 in
set_option maxRecDepth 100000 in
theorem ROptions_calls (v : Value) (ys : List Int) (w : World) (h : RowC w v ys) (hl : ys.length ≤ 1048576) :
    Calls Tryz.prog 83 #[v] w fun e w' => ROptsPost ys w e w' := by
  have HR : Hid _ := h
  obtain ⟨_, _, a, kap, rfl, hz⟩ := h
  go_enter Tryz.func83, Tryz.ntmps83
  go_wp2
  go_loopw [5, 6] (fun l i wr => ∃ k : Nat, ∃ os ds f, i = .int .i64 k ∧ k ≤ ys.length ∧ OptRow w.heap.size wr.heap.size wr l os ds ∧ Below w.heap.size w wr ∧ PreO ys os (ys.drop k) f ∧ ∃ a n c, l = .slice a n c) (fun _ i _ => ys.length - (intOf i).toNat)
  case atStart => exact ⟨0, [], [], _, rfl, Nat.zero_le _, OptRow.nil _ _ _, Below.refl _ _, PreO.start ys, _, _, _, rfl⟩
  case round =>
    obtain ⟨k, os, ds, f, rfl, hk, hRow, hB, hP, la, ln, lc, rfl⟩ := hrel
    have HEND : Hid (skipL (ys.drop k) = [] ∨ gz (skipL (ys.drop k)) 0 = 0 → ROptsPost ys w (.returned (.tuple #[.slice la ln lc, .int .i64 0, .int .i64 0])) wr) := fun hz => by
      obtain ⟨e1, e2⟩ := hP.fin2 hz
      exact ⟨_, _, _, rfl, by rw [e1]; exact hRow.opts (by have := hP.len; omega), hB, .inl ⟨e2, rfl, rfl⟩⟩
    have HBAD : Hid (¬ (skipL (ys.drop k) = [] ∨ gz (skipL (ys.drop k)) 0 = 0) → badO (skipL (ys.drop k)) → skipL (ys.drop k) = ys.drop k → ROptsPost ys w (.returned (.tuple #[.slice la ln lc, .int .i64 k, .int .i64 47])) wr) := fun hz hb hs => by
      obtain ⟨e1, e2⟩ := hP.bad2 hz hb
      refine ⟨_, _, _, rfl, by rw [e1]; exact hRow.opts (by have := hP.len; omega), hB, .inr ⟨_, e2, ?_, rfl⟩⟩
      rw [hs]
      simp
      omega
    by_cases hlt : k < ys.length
    · obtain ⟨ba, oa, kap', eab, hroom, hba, hcc⟩ := HR.out.some (by omega)
      cases eab
      have hkk : (k : Int) < (ys.length : Int) := by omega
      have x0 := (hB.cell (p := ⟨ba, oa + k, none⟩) hba).trans (hcc k hlt)
      have hf0 := HR.out.fit.gz k
      have hdc := drop_cons hlt
      by_cases h0 : gz ys k = 0
      · have HE : Hid (ROptsPost ys w (.returned (.tuple #[.slice la ln lc, .int .i64 0, .int .i64 0])) wr) := HEND.out (.inr (by rw [hdc, skipL_cons (by omega)]; exact h0))
        have q0 : (gz ys k != 0) = false := by simp [h0]
        clear hRow hP
        generalize gz ys k = z at *
        go_wp2
        go_ret3
        exact HE.out
      · have q0 : (gz ys k != 0) = true := by simp [h0]
        by_cases h1 : gz ys k = 1
        · have q1 : (gz ys k == 1) = true := by simp [h1]
          have HP : Hid (PreO ys os (ys.drop (k + 1)) f) := by rw [hdc, h1] at hP; exact hP.skip
          have HRow : Hid _ := hRow
          have HB : Hid _ := hB
          clear hRow hP hB HEND HBAD hdc
          generalize gz ys k = z at *
          go_wp2
          exact ⟨⟨k + 1, os, ds, f, by simp, by omega, HRow.out, HB.out, HP.out, _, _, _, rfl⟩, by simp [intOf]; omega⟩
        · have q1 : (gz ys k == 1) = false := by simp [h1]
          have hs : skipL (ys.drop k) = ys.drop k := by rw [hdc, skipL_cons h1]
          have hg0 : gz (ys.drop k) 0 = gz ys k := by rw [gz_drop]; rfl
          have hg1 : gz (ys.drop k) 1 = gz ys (k + 1) := by rw [gz_drop]
          have hnz : ¬ (skipL (ys.drop k) = [] ∨ gz (skipL (ys.drop k)) 0 = 0) := by
            rw [hs, hg0]
            intro c
            rcases c with c | c
            · rw [hdc] at c; cases c
            · exact h0 c
          have hld : (ys.drop k).length = ys.length - k := by simp
          have hf1 := HR.out.fit.gz (k + 1)
          have hbo : badO (skipL (ys.drop k)) ↔ (ys.length ≤ k + 1 ∨ gz ys (k + 1) < 2 ∨ (ys.length : Int) < k + gz ys (k + 1)) := by
            rw [hs]
            unfold badO
            rw [hg1, hld]
            omega
          have v1 : IntKind.i64.wrap ((k : Int) + 1) = (k : Int) + 1 := wrapi64 _ (by omega)
          have v2 : IntKind.i64.wrap ((k : Int) + gz ys (k + 1)) = (k : Int) + gz ys (k + 1) := wrapi64 _ (by omega)
          have v3 : IntKind.i64.wrap ((k : Int) + 2) = (k : Int) + 2 := wrapi64 _ (by omega)
          by_cases hb1 : ys.length ≤ k + 1
          · have HE : Hid (ROptsPost ys w (.returned (.tuple #[.slice la ln lc, .int .i64 k, .int .i64 47])) wr) := HBAD.out hnz (hbo.2 (.inl hb1)) hs
            have q2 : decide ((ys.length : Int) ≤ (k : Int) + 1) = true := by simp; omega
            clear hRow hP hbo hnz hs hdc hg0 hg1
            generalize gz ys k = z at *
            go_wp2
            go_ret3
            exact HE.out
          · have q2 : decide ((ys.length : Int) ≤ (k : Int) + 1) = false := by simp; omega
            have i1 : (k : Int) + 1 < (ys.length : Int) := by omega
            have x1 := (hB.cell (p := ⟨ba, oa + (k + 1), none⟩) hba).trans (hcc (k + 1) (by omega))
            by_cases hb2 : gz ys (k + 1) < 2
            · have HE : Hid (ROptsPost ys w (.returned (.tuple #[.slice la ln lc, .int .i64 k, .int .i64 47])) wr) := HBAD.out hnz (hbo.2 (.inr (.inl hb2))) hs
              have q3 : decide (gz ys (k + 1) < 2) = true := by simp [hb2]
              clear hRow hP hbo hnz hs hdc hg0 hg1
              generalize gz ys k = z at *
              generalize gz ys (k + 1) = zn at *
              go_wp2
              go_ret3
              exact HE.out
            · have q3 : decide (gz ys (k + 1) < 2) = false := by simp; omega
              by_cases hb3 : (ys.length : Int) < k + gz ys (k + 1)
              · have HE : Hid (ROptsPost ys w (.returned (.tuple #[.slice la ln lc, .int .i64 k, .int .i64 47])) wr) := HBAD.out hnz (hbo.2 (.inr (.inr hb3))) hs
                have q4 : decide ((ys.length : Int) < (k : Int) + gz ys (k + 1)) = true := by simp [hb3]
                clear hRow hP hbo hnz hs hdc hg0 hg1
                generalize gz ys k = z at *
                generalize gz ys (k + 1) = zn at *
                go_wp2
                go_ret3
                exact HE.out
              · have q4 : decide ((ys.length : Int) < (k : Int) + gz ys (k + 1)) = false := by simp; omega
                have hng : ¬ badO (skipL (ys.drop k)) := fun c => by rcases hbo.1 c with c | c | c <;> omega
                obtain ⟨n, hn⟩ := Int.eq_ofNat_of_zero_le (show 0 ≤ gz ys (k + 1) by omega)
                have HNX : Hid (PreO ys (os ++ [(gz ys k, (ys.drop (k + 2)).take (n - 2))]) (ys.drop (k + n)) (f - 1)) := by
                  have := hP.next hnz hng
                  rwa [hs, hg0, hg1, hn, show ((n : Int)).toNat = n by omega, List.drop_drop, List.drop_drop] at this
                have hn2 : 2 ≤ n ∧ k + n ≤ ys.length := by omega
                rw [hn] at x1 q3 q4 v2
                have HPC : Hid (∀ o, (0 < n - 2 → o = oa + (k + 2)) → BytesAt w.heap.size w (.slice (some ⟨ba, o, none⟩) (n - 2) (kap - (k + 2))) ((ys.drop (k + 2)).take (n - 2))) := fun o ho => piece_at hba HR.out.fit HR.out.len hcc (by omega) ho
                have hplen : ((ys.drop (k + 2)).take (n - 2)).length = n - 2 := by simp; omega
                have hba' : ba < wr.heap.size := Nat.lt_of_lt_of_le hba hB.size
                have hBd := hB.drew.alloc hB.size (.cells #[] 5)
                have hlen' := hP.len
                simp only [List.length_drop] at hlen'
                generalize hz : gz ys k = z at *
                have HZ : Hid _ := hz
                clear hz
                have t0 : (0 : Int) ≤ (k : Int) + 2 := by omega
                have t1 : ((k : Int) + 2).toNat = k + 2 := by omega
                have t2 : ((k : Int) + (n : Int)).toNat = k + n := by omega
                have t3 : (k : Int) + 2 ≤ (k : Int) + (n : Int) := by omega
                have t4 : (k : Int) + (n : Int) ≤ (kap : Int) := by omega
                have t5 : k + n - (k + 2) = n - 2 := by omega
                have t6 : (0 : Int) ≤ (k : Int) + (n : Int) := by omega
                have t7 : (2 : Int) ≤ (n : Int) := by omega
                have hbd1 : Below wr.heap.size wr (wr.drew.alloc (.cells #[] 5)) := (Below.refl wr.heap.size wr).drew.alloc (Nat.le_refl _) _
                obtain ⟨b1, k1, W2, hrun1, hb1, hc1⟩ := copy_run (B := wr.heap.size) ((HPC.out (nxt oa kap (k + 2)) (fun h => by unfold nxt; rw [if_neg (by omega)])).later hB) hbd1 (Nat.le_refl _) (by simp) 25
                rw [hplen] at hrun1
                have hB2 := hBd.trans (hb1.mono hBd.size)
                have y0 := (hB.drew.cell (p := ⟨ba, oa + k, none⟩) hba).trans (hcc k hlt)
                have y1 := (hBd.cell (p := ⟨ba, oa + k, none⟩) hba).trans (hcc k hlt)
                have y2 := (hB2.cell (p := ⟨ba, oa + k, none⟩) hba).trans (hcc k hlt)
                rw [HZ.out] at y0 y1 y2
                have hsz1 : (wr.drew.alloc (.cells #[] 5)).heap.size = wr.heap.size + 1 := by simp
                have hsz2 := hb1.size
                have hby2 : BytesAt W2.heap.size W2 (.slice (some ⟨b1, 0, none⟩) (n - 2) k1) ((ys.drop (k + 2)).take (n - 2)) := by
                  have := hc1.bytes (HPC.out (oa + (k + 2)) (fun _ => rfl)).fit (HPC.out (oa + (k + 2)) (fun _ => rfl)).len
                  rwa [hplen] at this
                have hRow2 : OptRow w.heap.size wr.heap.size W2 (.slice la ln lc) os ds := hRow.keep (Nat.le_refl _) (by omega) (fun j h1 h2 => (hb1.block j (by omega)).trans (hbd1.block j h2))
                have hBa := (Below.refl W2.heap.size W2).alloc (Nat.le_refl _) (.cells #[.int .u8 z, .slice (some ⟨b1, 0, none⟩) (n - 2) k1] 121)
                have hXb := blk_new W2 (.cells [.int .u8 z, .slice (some ⟨b1, 0, none⟩) (n - 2) k1].toArray 121)
                have hRow3 := hRow2.on (by omega) hBa
                have hs3 : (W2.alloc (.cells #[.int .u8 z, .slice (some ⟨b1, 0, none⟩) (n - 2) k1] 121)).heap.size = W2.heap.size + 1 := by simp
                have hB3 := hB2.alloc hB2.size (.cells #[.int .u8 z, .slice (some ⟨b1, 0, none⟩) (n - 2) k1] 121)
                obtain ⟨v6, W6, hrun6, hRow6, hgr6, ⟨ya, yn, yk, rfl⟩⟩ := hRow3.push (X := W2.heap.size) (K := z) (u := .slice (some ⟨b1, 0, none⟩) (n - 2) k1) (D := (ys.drop (k + 2)).take (n - 2)) (by omega) (by have := hB3.size; omega) (blk_cell hXb rfl) (blk_cell hXb rfl) hf0 (hby2.later hBa) (.inr ⟨b1, 0, _, _, rfl, by have := hc1.lo; have := hB.size; omega, by have := hc1.lt; omega, fun e => by have := hRow.gl b1 e; have := hc1.lo; omega⟩) (by omega) 1 131
                have hB6 : Below w.heap.size w W6 := hB3.trans ⟨hgr6.os, hgr6.tape, hgr6.output, hgr6.size, fun j hj => hgr6.block j (by have := hB3.size; omega) (fun e => by have := (hRow.own.lt j e.symm).1; omega)⟩
                have HR1 : Hid _ := hrun1
                have HR6 : Hid _ := hrun6
                have HB6 : Hid _ := hB6
                have HRow6 : Hid _ := hRow6
                have HFIN : Hid (∃ k' : Nat, ∃ os ds f, Value.int .i64 ((k : Int) + (n : Int)) = .int .i64 k' ∧ k' ≤ ys.length ∧ OptRow w.heap.size W6.heap.size W6 (.slice ya yn yk) os ds ∧ Below w.heap.size w W6 ∧ PreO ys os (ys.drop k') f ∧ ∃ a n c, Value.slice ya yn yk = .slice a n c) := ⟨k + n, _, _, _, by simp, hn2.2, hRow6, hB6, HNX.out, _, _, _, rfl⟩
                clear hrun1 hrun6 hB6 hRow6 hgr6 hB3 hs3 hRow3 hXb hBa hRow2 hby2 hb1 hc1 hbd1 hBd hB2 hRow HEND HBAD hP hbo hnz hs hdc hg0 hg1 hng hn hf1 hlen' hB
                unfold nxt at HR1
                by_cases hcap : kap = k + 2
                · have HR1' := HR1.out
                  rw [if_pos hcap] at HR1'
                  have hcapT : (kap = k + 2) = True := eq_true hcap
                  have HRA : Hid _ := HR1'
                  clear HR1' HR1 hcap
                  go_wp2_with fail
                  go_region_law (first | (refine step_appendR (R := fun v w => v = .slice (some ⟨b1, 0, none⟩) (n - 2) k1 ∧ w = W2) rfl _ _ _ _ rfl rfl rfl ⟨_, _, HRA.out, rfl, rfl⟩ ?_; rintro _ _ ⟨rfl, rfl⟩) | (refine step_appendR (R := fun v w => v = .slice ya yn yk ∧ w = W6) rfl _ _ _ _ rfl rfl rfl ⟨_, _, HR6.out, rfl, rfl⟩ ?_; rintro _ _ ⟨rfl, rfl⟩))
                  all_goals
                    go_wp2
                    exact ⟨HFIN.out, by simp [intOf]; omega⟩
                · have HR1' := HR1.out
                  rw [if_neg hcap] at HR1'
                  have HRA : Hid _ := HR1'
                  clear HR1' HR1
                  go_wp2_with fail
                  go_region_law (first | (refine step_appendR (R := fun v w => v = .slice (some ⟨b1, 0, none⟩) (n - 2) k1 ∧ w = W2) rfl _ _ _ _ rfl rfl rfl ⟨_, _, HRA.out, rfl, rfl⟩ ?_; rintro _ _ ⟨rfl, rfl⟩) | (refine step_appendR (R := fun v w => v = .slice ya yn yk ∧ w = W6) rfl _ _ _ _ rfl rfl rfl ⟨_, _, HR6.out, rfl, rfl⟩ ?_; rintro _ _ ⟨rfl, rfl⟩))
                  all_goals
                    go_wp2
                    exact ⟨HFIN.out, by simp [intOf]; omega⟩
    · obtain rfl : k = ys.length := by omega
      have HE : Hid (ROptsPost ys w (.returned (.tuple #[.slice la ln lc, .int .i64 0, .int .i64 0])) wr) := HEND.out (.inl (by simp [skipL]))
      clear hRow hP
      go_wp2
      go_ret3
      exact HE.out

end Go.Proofs.YtnjkagopmfenkaaGreat.V4
namespace Go.Proofs.YtnjkagopmfenkaaGreat.V4
open Go Go.RowKit
set_option linter.unusedVariables false
set_option linter.unusedSimpArgs false

theorem oTot_prefix {os : Opts} {k : Nat} (hk : k ≤ os.length) : oTot os k ≤ oTot os os.length := by
  have h1 := oTot_mono os k (os.length - k)
  rwa [show k + (os.length - k) = os.length by omega] at h1

def sliceLen (v : Value) : Nat := match v with | .slice _ n _ => n | _ => 0
theorem up4_eq {T m : Nat} (h1 : T + m ≤ up4 T) (h2 : (T + m) % 4 = 0) : up4 T = T + m := by unfold up4 at *; omega
theorem up4_lt {T m : Nat} (h1 : T + m ≤ up4 T) (h2 : (T + m) % 4 ≠ 0) : T + m + 1 ≤ up4 T := by unfold up4 at *; omega

end Go.Proofs.YtnjkagopmfenkaaGreat.V4
namespace Go.Proofs.YtnjkagopmfenkaaGreat.V4
open Go Go.RowKit
set_option linter.unusedVariables false
set_option linter.unusedSimpArgs false

def rt (o : Int × List Int) : Bool := (o.1 == 131 || o.1 == 137) && (o.2.length != 0) && decide (gz o.2 0 ≤ 2 + (o.2.length : Int))
def routed (os : Opts) : Bool := os.any rt

set_option maxHeartbeats 1000000 in
set_option maxRecDepth 100000 in
theorem route_calls (K : Int) (d : Value) (D : List Int) (w : World) (h : BytesAt w.heap.size w d D) :
    Calls Tryz.prog 72 #[.agg #[.int .u8 K, d]] w fun e w' => e = .returned (.bool (rt (K, D))) ∧ Below w.heap.size w w' := by
  have hf := h.fit
  obtain ⟨_, hl, a, k, rfl, hz⟩ := h
  have hB := (Below.refl w.heap.size w).alloc (Nat.le_refl _) (.cells #[.int .u8 K, .slice a D.length k] 121)
  have HBA : Hid (∀ o, Below w.heap.size w (w.alloc o)) := fun o => (Below.refl w.heap.size w).alloc (Nat.le_refl _) o
  unfold rt
  simp only
  by_cases h0 : D.length = 0
  · have e : (D.length != 0) = false := by simp [h0]
    rw [e, Bool.and_false, Bool.false_and]
    have q0 : ((D.length : Int) == 0) = true := by simp; exact List.length_eq_zero_iff.1 h0
    have HB : Hid _ := hB
    clear hz hf hB e
    rw [h0]
    go_enter Tryz.func72, Tryz.ntmps72
    go_wp2
    all_goals
      go_ret
      exact ⟨rfl, HBA.out _⟩
  · rcases hz with hz | ⟨b, off, rfl, hlt, hc⟩
    · exact absurd hz h0
    have e : (D.length != 0) = true := by simp [h0]
    have c0 := (hB.cell (p := ⟨b, off, none⟩) hlt).trans (hc 0 (by omega))
    have g0 : D[0]?.getD 0 = gz D 0 := rfl
    rw [g0] at c0
    have gf := hf.gz 0
    have q0 : ((D.length : Int) == 0) = false := by simp; intro c; rw [c] at h0; simp at h0
    have i0 : (0 : Int) < (D.length : Int) := by omega
    have v1 : IntKind.i64.wrap (2 + (D.length : Int)) = 2 + (D.length : Int) := wrapi64 _ (by omega)
    have HB : Hid _ := hB
    clear hc hf g0 h0 hB
    generalize gz D 0 = z at *
    generalize D.length = L at *
    rw [e]
    clear e
    by_cases h1 : K = 131
    · subst h1
      go_enter Tryz.func72, Tryz.ntmps72
      go_wp2_with fail
      go_region
      all_goals
        go_wp2
        go_ret
        exact ⟨by simp, (HBA.out _).drew⟩
    · by_cases h2 : K = 137
      · subst h2
        go_enter Tryz.func72, Tryz.ntmps72
        go_wp2_with fail
        go_region
        all_goals
          go_wp2
          go_ret
          exact ⟨by simp, (HBA.out _).drew⟩
      · have p1 : (K == 131) = false := by simp [h1]
        have p2 : (K == 137) = false := by simp [h2]
        have p1' : (K != 131) = true := by simp [h1]
        have p2' : (K != 137) = true := by simp [h2]
        rw [p1, p2]
        clear h1 h2 p1 p2
        go_enter Tryz.func72, Tryz.ntmps72
        go_wp2
        all_goals
          go_ret
          exact ⟨by simp, HB.out⟩

end Go.Proofs.YtnjkagopmfenkaaGreat.V4
namespace Go.Proofs.YtnjkagopmfenkaaGreat.V4
open Go Go.RowKit
set_option linter.unusedVariables false
set_option linter.unusedSimpArgs false

set_option maxHeartbeats 1500000 in
set_option maxRecDepth 100000 in
theorem RRouted_calls (v : Value) (ys : List Int) (w : World) (h : RowC w v ys) (hl : ys.length ≤ 1048576) :
    Calls Tryz.prog 42 #[v] w fun e w' => e = .returned (.bool (routed (optsF (ys.length + 1) ys).1)) ∧ Below w.heap.size w w' := by
  have HRO : Hid _ := ROptions_calls v ys w h hl
  clear h
  go_enter Tryz.func42, Tryz.ntmps42
  go_wp2_with fail
  refine Calls.mono HRO.out ?_
  rintro _ w1 ⟨v1, at1, er1, rfl, ho, hb1, _⟩
  clear HRO
  generalize hos : (optsF (ys.length + 1) ys).1 = os at *
  have HOS : Hid _ := hos
  clear hos
  obtain ⟨hfit, hlen, a, cap, rfl, hz⟩ := ho
  go_wp2
  go_loopw [6] (fun i wr => ∃ k : Nat, k ≤ os.length ∧ i = .int .i64 k ∧ routed (os.take k) = false ∧ Below w.heap.size w wr ∧ Below w1.heap.size w1 wr) (fun i _ => os.length - (intOf i).toNat)
  case atStart => exact ⟨0, Nat.zero_le _, rfl, rfl, hb1, Below.refl _ _⟩
  case round =>
    obtain ⟨k, hk, rfl, hno, hB, hB1⟩ := hrel
    by_cases hlt : k < os.length
    · have hkk : (k : Int) < (os.length : Int) := by omega
      have hz' := hz
      rcases hz' with hz' | ⟨b, off, rfl, hbn, hc⟩
      · omega
      obtain ⟨c0, s, c1, hs⟩ := hc k hlt
      have hs2 := hs.later hB1
      have hsf := hs.fit
      have x0 := (hB1.cell (p := ⟨b, off + k * 2, none⟩) hbn).trans c0
      have x1 := (hB1.cell (p := ⟨b, off + k * 2 + 1, none⟩) hbn).trans c1
      have hel : os[k]? = some (oK os k, oD os k) := by
        rw [List.getElem?_eq_getElem hlt]
        simp [oK, oD, List.getElem?_eq_getElem hlt]
      have hstep : rt (oK os k, oD os k) = false → routed (os.take (k + 1)) = false := fun hr => by
        have e : os[k] = (oK os k, oD os k) := by rw [List.getElem?_eq_getElem hlt] at hel; exact Option.some.inj hel
        rw [List.take_succ_eq_append_getElem hlt, e]
        unfold routed at hno ⊢
        rw [List.any_append, hno]
        simp [hr]
      have hyes : rt (oK os k, oD os k) = true → routed os = true := fun hr => by
        unfold routed
        rw [List.any_eq_true]
        exact ⟨_, List.mem_of_getElem? hel, hr⟩
      have HST : Hid _ := hstep
      have HYES : Hid _ := hyes
      have HB : Hid _ := hB
      have HB1 : Hid _ := hB1
      obtain ⟨_, hdl, sa, sc, rfl, hsz⟩ := hs2
      unfold rt at HST HYES
      simp only at HST HYES
      clear hstep hyes hel hc hz c0 c1 hs hB hB1 hno
      generalize oK os k = K at *
      generalize oD os k = D at *
      have hgo : ∀ W, Below w.heap.size w W → Below w1.heap.size w1 W → routed (os.take (k + 1)) = false → (∃ k' : Nat, k' ≤ os.length ∧ Value.int .i64 ((k : Int) + 1) = .int .i64 k' ∧ routed (os.take k') = false ∧ Below w.heap.size w W ∧ Below w1.heap.size w1 W) := fun W h1 h2 h3 => ⟨k + 1, hlt, by simp, h3, h1, h2⟩
      have HGO : Hid _ := hgo
      clear hgo
      by_cases hK : K = 131 ∨ K = 137
      · by_cases h0 : D.length = 0
        · have HN : Hid (routed (os.take (k + 1)) = false) := HST.out (by simp [h0])
          clear hsz HST HYES
          rw [h0] at x1
          rcases hK with rfl | rfl
          all_goals
            go_wp2_with fail
            go_region
            all_goals
              go_wp2
              exact ⟨HGO.out _ HB.out.drew HB1.out.drew HN.out, by simp [intOf]; omega⟩
        · rcases hsz with hsz | ⟨bd, od, rfl, hbd, hcd⟩
          · exact absurd hsz h0
          have z0 : wr.cell? ⟨bd, od, none⟩ = some (.int .u8 (gz D 0)) := hcd 0 (by omega)
          have gf := hsf.gz 0
          have i0 : (0 : Int) < (D.length : Int) := by omega
          have q0 : decide ((0 : Int) < (D.length : Int)) = true := decide_eq_true i0
          have q0n : decide (0 < D.length) = true := decide_eq_true (by omega)
          have i0n : 0 < D.length := by omega
          have i0e : ¬ D.length = 0 := h0
          have v1 : IntKind.i64.wrap (2 + (D.length : Int)) = 2 + (D.length : Int) := wrapi64 _ (by omega)
          have hrt : ((K == 131 || K == 137) && D.length != 0 && decide (gz D 0 ≤ 2 + (D.length : Int))) = decide (gz D 0 ≤ 2 + (D.length : Int)) := by rcases hK with rfl | rfl <;> simp [h0]
          rw [hrt] at HST HYES
          by_cases hr : gz D 0 ≤ 2 + (D.length : Int)
          · have q1 : decide (gz D 0 ≤ 2 + (D.length : Int)) = true := by simp [hr]
            have HY : Hid (routed os = true) := HYES.out q1
            clear HST HYES hr hcd hsf h0 hrt
            generalize gz D 0 = z at *
            generalize D.length = L at *
            rcases hK with rfl | rfl
            all_goals
              go_wp2_with fail
              go_region
              all_goals
                go_wp2
                go_ret
                exact ⟨by rw [HOS.out, HY.out]; rfl, HB.out.drew⟩
          · have q1 : decide (gz D 0 ≤ 2 + (D.length : Int)) = false := by simpa using hr
            have HN : Hid (routed (os.take (k + 1)) = false) := HST.out q1
            clear HST HYES hr hcd hsf h0 hrt
            generalize gz D 0 = z at *
            generalize D.length = L at *
            rcases hK with rfl | rfl
            all_goals
              go_wp2_with fail
              go_region
              all_goals
                go_wp2
                exact ⟨HGO.out _ HB.out.drew HB1.out.drew HN.out, by simp [intOf]; omega⟩
      · have p1 : (K == 131) = false := by simp; exact fun c => hK (.inl c)
        have p2 : (K == 137) = false := by simp; exact fun c => hK (.inr c)
        have HN : Hid (routed (os.take (k + 1)) = false) := HST.out (by rw [p1, p2]; rfl)
        clear HST HYES hsz hsf hK
        generalize D.length = L at *
        go_wp2_with fail
        go_region
        all_goals
          go_wp2
          exact ⟨HGO.out _ HB.out.drew HB1.out.drew HN.out, by simp [intOf]; omega⟩
    · obtain rfl : k = os.length := by omega
      have HY : Hid (routed os = false) := by rw [List.take_length] at hno; exact hno
      have HB : Hid _ := hB
      clear hz hB hB1 hno
      go_wp2
      go_ret
      exact ⟨by rw [HOS.out, HY.out]; rfl, HB.out⟩

end Go.Proofs.YtnjkagopmfenkaaGreat.V4
namespace Go.Proofs.YtnjkagopmfenkaaGreat.V4
open Go Go.RowKit
set_option linter.unusedVariables false
set_option linter.unusedSimpArgs false

/-- The result's box of Routed. -/
structure BoxR (w0 W : World) (Q : Nat) (x : Bool) : Prop where
  xb : W.heap[Q]? = some (.cells [.bool x].toArray 4)
  bel : Below w0.heap.size w0 W
  up : w0.heap.size ≤ Q
theorem BoxR.start (w : World) : BoxR w (w.alloc (.cells #[.bool false] 4)) w.heap.size false := ⟨blk_new w _, (Below.refl w.heap.size w).alloc (Nat.le_refl _) _, Nat.le_refl _⟩
theorem BoxR.on {w0 W W' : World} {Q : Nat} {x : Bool} (h : BoxR w0 W Q x) (hb : Below W.heap.size W W') : BoxR w0 W' Q x := ⟨blk_on h.xb hb, h.bel.trans (hb.mono h.bel.size), h.up⟩
theorem BoxR.but {w0 W W' : World} {Q R : Nat} {x : Bool} (h : BoxR w0 W Q x) (hb : But R W W') (hR : Q < R) : BoxR w0 W' Q x := ⟨hb.blk h.xb (by omega), h.bel.trans (hb.below (by have := h.up; omega) h.bel.size), h.up⟩
theorem BoxR.set {w0 W : World} {Q : Nat} {x : Bool} (h : BoxR w0 W Q x) (y : Bool) : BoxR w0 (W.setCell ⟨Q, 0, none⟩ (.bool y)) Q y := ⟨by rw [blk_set h.xb]; rfl, h.bel.setCell h.up _, h.up⟩
theorem BoxR.drew {w0 W : World} {Q : Nat} {x : Bool} (h : BoxR w0 W Q x) : BoxR w0 W.drew Q x := ⟨h.xb, h.bel.drew, h.up⟩
theorem BoxR.load {w0 W : World} {Q : Nat} {x : Bool} (h : BoxR w0 W Q x) : (loadVar 4 ⟨Q, 0, none⟩).run Tryz.prog W = .ok (.bool x) W := by
  have := blk_cell h.xb (j := 0) rfl
  simp [loadVar, go_sem, this]
theorem tmps9 (a : Value) : (#[a] ++ Array.replicate (9 - #[a].size) undef : Array Value) = #[a, undef, undef, undef, undef, undef, undef, undef, undef] := rfl

set_option maxHeartbeats 2000000 in
set_option maxRecDepth 100000 in
theorem catch_idleR (p : Addr) (w : World) :
    CallsD Tryz.prog 69 #[.pointer (some p)] .returning w fun e u' w' => e = .returned (.tuple #[]) ∧ u' = .returning ∧ Below w.heap.size w w' := by
  have hB := Below.refl w.heap.size w
  have hB2 := fun o => (Below.refl w.heap.size w).alloc (Nat.le_refl _) o
  have ht := ta_no w
  refine callsD_of_wpS Tryz.func69 rfl fun c₀ cs hu => ?_
  apply wpS_seq
  refine wpS_region_rec (v := .nilIface) (cs' := c₀ :: cs) rfl rfl (by simp [recoverD, hu]) ?_
  simp only [Tryz.ntmps69, tmps9, Act.put, List.setIfInBounds_toArray, List.set_cons_zero, List.set_cons_succ]
  go_wp2
  refine wpS_of_wp ?_
  go_wp2
  cases c₀
  simp_all [bodyPostS, results, Tryz.results69]

set_option maxHeartbeats 2000000 in
set_option maxRecDepth 100000 in
theorem catch_faultR (w0 : World) (Q : Nat) (x : Bool) (at' e : Int) (w : World) (h : BoxR w0 w Q x) :
    CallsD Tryz.prog 69 #[.pointer (some ⟨Q, 0, none⟩)] (.panicking [{ v := .iface 116 (.agg #[.int .i64 at', .int .i64 e]), recovered := false }]) w fun e' u' w' => e' = .returned (.tuple #[]) ∧ u' = .panicking [{ v := .iface 116 (.agg #[.int .i64 at', .int .i64 e]), recovered := true }] ∧ BoxR w0 w' Q false := by
  have ht := ta_yes (.agg #[.int .i64 at', .int .i64 e]) w
  refine callsD_of_wpS Tryz.func69 rfl fun c₀ cs hu => ?_
  apply wpS_seq
  refine wpS_region_rec (v := .iface 116 (.agg #[.int .i64 at', .int .i64 e])) (cs' := { c₀ with mode := .panicking [{ v := .iface 116 (.agg #[.int .i64 at', .int .i64 e]), recovered := true }] } :: cs) rfl rfl (by simp [recoverD, hu]) ?_
  simp only [Tryz.ntmps69, tmps9, Act.put, List.setIfInBounds_toArray, List.set_cons_zero, List.set_cons_succ]
  have h1 := h.on ((Below.refl w.heap.size w).alloc (Nat.le_refl _) (.cells #[.int .i64 at', .int .i64 e] 116))
  have HE : Hid _ := h1.set false
  have m0 := blk_cell h1.xb (j := 0) rfl
  have n0 := blk_open h1.xb 0
  clear h h1
  go_wp2
  refine wpS_of_wp ?_
  go_wp2
  exact ⟨rfl, _, rfl, _, results_none rfl _ _ _, rfl, rfl, HE.out⟩

end Go.Proofs.YtnjkagopmfenkaaGreat.V4
namespace Go.Proofs.YtnjkagopmfenkaaGreat.V4
open Go Go.RowKit
set_option linter.unusedVariables false
set_option linter.unusedSimpArgs false

theorem routed_snoc {os : Opts} {o : Int × List Int} (h : routed os = false) (ho : rt o = false) : routed (os ++ [o]) = false := by
  unfold routed at *
  rw [List.any_append, h]
  simp [ho]
theorem PreO.fin3 {ys : List Int} {os : Opts} {rest : List Int} {f : Nat} (h : PreO ys os rest f) (h1 : skipL rest = [] ∨ gz (skipL rest) 0 = 0) : (optsF (ys.length + 1) ys).1 = os := by
  have := h.eq
  rw [optsF_fin h1] at this
  rw [this]
  simp
theorem PreO.bad3 {ys : List Int} {os : Opts} {rest : List Int} {f : Nat} (h : PreO ys os rest f) (h1 : ¬ (skipL rest = [] ∨ gz (skipL rest) 0 = 0)) (hb : badO (skipL rest)) : (optsF (ys.length + 1) ys).1 = os := by
  have hf := h.fuel
  obtain ⟨g, rfl⟩ : ∃ g, f = g + 1 := ⟨f - 1, by omega⟩
  have := h.eq
  rw [optsF_bad h1 hb] at this
  rw [this]
  simp
theorem PreO.has {ys : List Int} {os : Opts} {o : Int × List Int} {rest : List Int} {f : Nat} (h : PreO ys (os ++ [o]) rest f) (hr : rt o = true) : routed (optsF (ys.length + 1) ys).1 = true := by
  rw [h.eq]
  unfold routed
  rw [List.any_eq_true]
  exact ⟨o, by simp, hr⟩

/-- The loop's state. -/
def LoopR (w : World) (R : Nat) (ys : List Int) (o m : Value) (wr : World) : Prop :=
  ∃ os O, o = .pointer (some ⟨O, 0, none⟩) ∧ BoxR w wr w.heap.size false ∧ R + 1 ≤ O ∧ O < wr.heap.size ∧ routed os = false ∧
    ((m = .bool false ∧ (optsF (ys.length + 1) ys).1 = os) ∨
     (m = .bool true ∧ ∃ K d D rest s f, wr.heap[O]? = some (.cells [.int .u8 K, d].toArray 121) ∧ BytesAt w.heap.size w d D ∧ RowC w s rest ∧ ListW w wr R s ys.length ∧ PreO ys (os ++ [(K, D)]) rest f))
theorem LoopR.of_next {w W : World} {R : Nat} {ys rest : List Int} {os : Opts} {f O : Nat} {K : Int} {d : Value} {m : Bool} (hB : BoxR w W w.heap.size false) (h1 : R + 1 ≤ O) (h2 : O < W.heap.size) (hno : routed os = false) (hP : PreO ys os rest f) (hO : W.heap[O]? = some (.cells [.int .u8 K, d].toArray 121)) (hN : NxO w W R ys.length rest K d m) :
    LoopR w R ys (.pointer (some ⟨O, 0, none⟩)) (.bool m) W := by
  refine ⟨os, O, rfl, hB, h1, h2, hno, ?_⟩
  rcases hN with ⟨rfl, hz⟩ | ⟨rfl, hz, hb, rfl, hd, s', hr, hL⟩
  · exact .inl ⟨rfl, hP.fin3 hz⟩
  · exact .inr ⟨rfl, _, d, _, _, s', _, hO, hd, hr, hL, hP.next hz hb⟩

theorem resR {P : Program} {fn : Func} {a : Tmp} {t : TypeId} (h : fn.results = #[.cell a t]) {tmps : Array Value} {R : Addr} (hp : tmps.getD a undef = .pointer (some R)) {v : Value} {w : World} (hl : (loadVar t R).run P w = .ok v w) :
    (results fn tmps).run P w = .ok v w := by
  rw [Array.getD_eq_getD_getElem?] at hp
  simp [results, h, hp, asAddr, hl]

set_option maxHeartbeats 1500000 in
set_option maxRecDepth 100000 in
theorem Routed_calls (v : Value) (ys : List Int) (w : World) (h : RowC w v ys) (hl : ys.length ≤ 1048576) :
    Calls Tryz.prog 37 #[v] w fun e w' => e = .returned (.bool (routed (optsF (ys.length + 1) ys).1)) ∧ Below w.heap.size w w' := by
  have hmf : ∀ (fn : Fn) (first cap : Array Value) (w : World), (Instr.makeFunc fn first cap).run Tryz.prog w = .ok (.func fn first cap) w := fun _ _ _ _ => rfl
  have hBX := BoxR.start w
  have HLI : Hid _ := listed_calls v ys _ (h.on hBX.bel)
  have HBX : Hid _ := hBX
  have HR0 : Hid _ := h
  clear hBX h
  rw [show (w.alloc (.cells #[.bool false] 4)).heap.size = w.heap.size + 1 by simp] at HLI
  generalize hW0 : w.alloc (.cells #[.bool false] 4) = W0 at *
  go_enter_defers Tryz.func37, Tryz.ntmps37
  go_wp2_with fail
  refine Calls.mono HLI.out ?_
  rintro _ w1 ⟨rfl, hL1, hb1⟩
  have hsz0 : W0.heap.size = w.heap.size + 1 := by rw [← hW0]; simp
  clear hW0
  have HB1 : Hid (BoxR w w1 w.heap.size false) := HBX.out.on (by rw [hsz0]; exact hb1)
  have HL1 : Hid (ListW w w1 (w.heap.size + 1) v ys.length) := ⟨hL1.blk, by omega, HB1.out.bel⟩
  generalize hR : w.heap.size + 1 = R at *
  have HNX : Hid _ := next_calls (w := w) HR0.out HL1.out (Nat.le_refl _) (by omega)
  have HLT1 : Hid (R < w1.heap.size) := (Array.getElem?_eq_some_iff.1 hL1.blk).1
  clear hL1 hb1 hsz0 HLI HBX W0
  go_wp2_with fail
  refine Calls.mono HNX.out ?_
  rintro e2 w2 h2
  rcases h2.split (by omega) HL1.out.bel with ⟨hz, hbad, rfl, hb2, hB2⟩ | ⟨K, da, dn, dc, m, rfl, hb2, hB2, hN2⟩
  · have hBO := HB1.out.but hB2 (by omega)
    have HOI : Hid ((optsF (ys.length + 1) ys).1 = []) := (PreO.start ys).bad3 hz hbad
    refine leaves_cons (f := 69) (args := #[.pointer (some ⟨w.heap.size, 0, none⟩)]) (by simp) (by simp [go_sem]) ?_
    refine (catch_faultR w w.heap.size _ _ 47 _ hBO).mono ?_
    rintro e9 u9 w9 ⟨rfl, rfl, h9⟩
    exact ⟨_, resR rfl rfl h9.load, by rw [HOI.out]; rfl, h9.bel⟩
  · have hBa := (Below.refl w2.heap.size w2).alloc (Nat.le_refl _) (.cells #[.int .u8 K, .slice da dn dc] 121)
    have HST : Hid (LoopR w R ys (.pointer (some ⟨w2.heap.size, 0, none⟩)) (.bool m) (w2.alloc (.cells #[.int .u8 K, .slice da dn dc] 121))) := by
      refine LoopR.of_next (os := []) ((HB1.out.but hB2 (by omega)).on hBa) ?_ (by simp) rfl (PreO.start ys) (blk_new w2 _) ?_
      · have := HLT1.out
        have := hB2.size
        omega
      · rcases hN2 with h | ⟨h1, h2, h3, h4, h5, s', h6, h7⟩
        · exact .inl h
        · exact .inr ⟨h1, h2, h3, h4, h5, s', h6, h7.on hBa⟩
    clear hBa hN2 hb2 hB2 HNX HL1 HB1 HLT1 h2
    go_wp2_with fail
    go_loopw [4, 5] (fun o m wr => LoopR w R ys o m wr) (fun _ m wr => measO R m wr)
    case atStart => exact HST.out
    case round =>
      obtain ⟨os, O, rfl, hB, hO1, hO2, hno, hm⟩ := hrel
      have m0 := blk_cell hB.xb (j := 0) rfl
      have n0 := blk_open hB.xb 0
      rcases hm with ⟨rfl, hIs⟩ | ⟨rfl, K', d', D', rest, s', f, hOb, hd', hr', hL', hP⟩
      · have HE : Hid _ := hB.set false
        have HIS : Hid (routed (optsF (ys.length + 1) ys).1 = false) := by rw [hIs]; exact hno
        clear hB hIs hno
        go_wp2
        refine leaves_cons (f := 69) (args := #[.pointer (some ⟨w.heap.size, 0, none⟩)]) (by simp) (by simp [go_sem]) ?_
        refine (catch_idleR _ _).mono ?_
        rintro e9 u9 w9 ⟨rfl, rfl, hb9⟩
        have h9 := HE.out.on hb9
        exact ⟨_, resR rfl rfl h9.load, by rw [HIS.out], h9.bel⟩
      · have k0 := blk_cell hOb (j := 0) rfl
        have k1 := blk_cell hOb (j := 1) rfl
        have HRT : Hid _ := route_calls K' d' D' wr (hd'.later hB.bel)
        have hrt1 : rt (K', D') = true → routed (optsF (ys.length + 1) ys).1 = true := fun hr => hP.has hr
        have hrt2 : rt (K', D') = false → routed (os ++ [(K', D')]) = false := fun hr => routed_snoc hno hr
        have HRT1 : Hid _ := hrt1
        have HRT2 : Hid _ := hrt2
        have HLL : Hid (leftLen wr R = rest.length) := hL'.leftLen hr'
        have HOB : Hid _ := hOb
        have HBX : Hid _ := hB
        have HR' : Hid _ := hr'
        have HL' : Hid _ := hL'
        have HP : Hid _ := hP
        obtain ⟨_, _, xa, xc, hde, _⟩ := hd'
        generalize D'.length = Dn at hde
        subst hde
        clear hB hL' hP hr' hOb hrt1 hrt2 hno
        generalize rt (K', D') = r at *
        go_wp2_with fail
        refine Calls.mono HRT.out ?_
        rintro _ w3 ⟨rfl, hb3⟩
        have hB3 := HBX.out.on hb3
        have m3 := blk_cell hB3.xb (j := 0) rfl
        have n3 := blk_open hB3.xb 0
        have hOb3 := blk_on HOB.out hb3
        have k0' := blk_cell hOb3 (j := 0) rfl
        have k1' := blk_cell hOb3 (j := 1) rfl
        have hsz3 := hb3.size
        cases r with
        | true =>
          have HE : Hid _ := hB3.set true
          have HY : Hid (routed (optsF (ys.length + 1) ys).1 = true) := HRT1.out rfl
          clear hB3 hOb3 hb3 HRT1 HRT2
          go_wp2
          refine leaves_cons (f := 69) (args := #[.pointer (some ⟨w.heap.size, 0, none⟩)]) (by simp) (by simp [go_sem]) ?_
          refine (catch_idleR _ _).mono ?_
          rintro e9 u9 w9 ⟨rfl, rfl, hb9⟩
          have h9 := HE.out.on hb9
          exact ⟨_, resR rfl rfl h9.load, by rw [HY.out], h9.bel⟩
        | false =>
          have HNO : Hid (routed (os ++ [(K', D')]) = false) := HRT2.out rfl
          have hBa := (Below.refl w3.heap.size w3).alloc (Nat.le_refl _) (.cells #[.int .u8 K', .slice xa Dn xc] 121)
          have HB8 : Hid _ := hB3.on hBa
          have HL8 : Hid _ := (HL'.out.on hb3).on hBa
          have HNb : Hid _ := blk_new w3 (.cells [.int .u8 K', .slice xa Dn xc].toArray 121)
          have hlen' := HP.out.len
          simp only [List.length_append, List.length_cons, List.length_nil] at hlen'
          have HNX : Hid _ := next_calls (w := w) HR'.out HL8.out (by omega) (by omega)
          have HS8 : Hid ((w3.alloc (.cells #[.int .u8 K', .slice xa Dn xc] 121)).heap.size = w3.heap.size + 1) := by show _ = _; simp
          clear hB3 hOb3 hb3 hBa HRT1 HRT2
          go_wp2_with fail
          refine Calls.mono HNX.out ?_
          rintro e9 w9 h9
          rcases h9.split (by omega) HL8.out.bel with ⟨hz, hbad, rfl, hb9, hB9⟩ | ⟨K9, ea, en, ec, m9, rfl, hb9, hB9, hN9⟩
          · have hBO := HB8.out.but hB9 (by omega)
            have HOI : Hid ((optsF (ys.length + 1) ys).1 = os ++ [(K', D')]) := HP.out.bad3 hz hbad
            refine leaves_cons (f := 69) (args := #[.pointer (some ⟨w.heap.size, 0, none⟩)]) (by simp) (by simp [go_sem]) ?_
            refine (catch_faultR w w.heap.size _ _ 47 _ hBO).mono ?_
            rintro e10 u10 w10 ⟨rfl, rfl, h10⟩
            exact ⟨_, resR rfl rfl h10.load, by rw [HOI.out, HNO.out], h10.bel⟩
          · have hsz8 := HS8.out
            have hsz9 := hB9.size
            have hOb9 := hB9.blk HNb.out (by omega)
            have l0 := blk_cell hOb9 (j := 0) rfl
            have l1 := blk_cell hOb9 (j := 1) rfl
            have p0 := blk_open hOb9 0
            have p1 := blk_open hOb9 1
            have hO10 := ((Only.refl w3.heap.size w9).set 0 (.int .u8 K9)).set 1 (.slice ea en ec)
            have hOb10 : ((w9.setCell ⟨w3.heap.size, 0, none⟩ (.int .u8 K9)).setCell ⟨w3.heap.size, 1, none⟩ (.slice ea en ec)).heap[w3.heap.size]? = some (.cells [.int .u8 K9, .slice ea en ec].toArray 121) := by rw [blk_set (blk_set hOb9 0 _) 1 _]; rfl
            have hB10 := (HB8.out.but hB9 (by omega)).but (But.of_only hO10) (by omega)
            have hN10 : NxO w ((w9.setCell ⟨w3.heap.size, 0, none⟩ (.int .u8 K9)).setCell ⟨w3.heap.size, 1, none⟩ (.slice ea en ec)) R ys.length rest K9 (.slice ea en ec) m9 := by
              rcases hN9 with h | ⟨h1, h2, h3, h4, h5, s9, h6, h7⟩
              · exact .inl h
              · exact .inr ⟨h1, h2, h3, h4, h5, s9, h6, ⟨(hO10.other R (by omega)).trans h7.blk, h7.up, h7.bel.trans (hO10.below (by omega))⟩⟩
            have HST9 : Hid (LoopR w R ys (.pointer (some ⟨w3.heap.size, 0, none⟩)) (.bool m9) ((w9.setCell ⟨w3.heap.size, 0, none⟩ (.int .u8 K9)).setCell ⟨w3.heap.size, 1, none⟩ (.slice ea en ec))) :=
              LoopR.of_next hB10 (by omega) (by rw [hO10.size]; omega) HNO.out HP.out hOb10 hN10
            have HME : Hid (measO R (.bool m9) ((w9.setCell ⟨w3.heap.size, 0, none⟩ (.int .u8 K9)).setCell ⟨w3.heap.size, 1, none⟩ (.slice ea en ec)) < measO R (.bool true) wr) := by
              show measO R (.bool m9) _ < leftLen wr R + 1
              rw [HLL.out]
              rcases hN10 with ⟨rfl, _⟩ | ⟨rfl, h2, h3, h4, h5, s9, h6, h7⟩
              · show 0 < _
                omega
              · show leftLen _ R + 1 < _
                rw [h7.leftLen h6]
                have := drop_less h3
                omega
            clear hN10 hB10 hOb10 hO10 hOb9 hN9 hB9 hb9 h9
            go_wp2
            exact ⟨HST9.out, HME.out⟩

end Go.Proofs.YtnjkagopmfenkaaGreat.V4
