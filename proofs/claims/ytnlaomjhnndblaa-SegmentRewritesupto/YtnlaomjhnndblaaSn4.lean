/-
  Where a segment's maximum segment size stands: the options' bytes.
  size and mssPlace of package segment.
  MSS of package segment; place and MSS of the document.
  MSS of the document; Clamp of package segment.
-/
import Derived.Test.YtnlaomjhnndblaaSl4
namespace Go.Proofs.Ytnlaomjhnndblaa
open Go Go.RowKit Go.Shelf
set_option linter.unusedVariables false
set_option linter.unusedSimpArgs false

def szO (zs : List Int) (i : Nat) : Nat := if i + 1 < zs.length ∧ 2 ≤ gz zs (i + 1) ∧ i + (gz zs (i + 1)).toNat ≤ zs.length then (gz zs (i + 1)).toNat else 0
def plc (zs : List Int) : Nat → Nat → Option Nat
  | 0, _ => none
  | f + 1, i => if zs.length ≤ i ∨ gz zs i = 0 then none else if gz zs i = 1 then plc zs f (i + 1) else if szO zs i = 0 then none else if gz zs i = 2 ∧ szO zs i = 4 then some (i + 2) else plc zs f (i + szO zs i)
theorem plc_any (zs : List Int) : ∀ f g i, zs.length < f + i → zs.length < g + i → plc zs f i = plc zs g i
  | 0, 0, i, h, k => rfl
  | 0, g + 1, i, h, k => by
    unfold plc
    rw [if_pos (.inl (by omega))]
  | f + 1, 0, i, h, k => by
    unfold plc
    rw [if_pos (.inl (by omega))]
  | f + 1, g + 1, i, h, k => by
    unfold plc
    by_cases h1 : zs.length ≤ i ∨ gz zs i = 0
    · rw [if_pos h1, if_pos h1]
    · rw [if_neg h1, if_neg h1]
      by_cases h2 : gz zs i = 1
      · rw [if_pos h2, if_pos h2]
        exact plc_any zs f g (i + 1) (by omega) (by omega)
      · rw [if_neg h2, if_neg h2]
        by_cases h3 : szO zs i = 0
        · rw [if_pos h3, if_pos h3]
        · rw [if_neg h3, if_neg h3]
          by_cases h4 : gz zs i = 2 ∧ szO zs i = 4
          · rw [if_pos h4, if_pos h4]
          · rw [if_neg h4, if_neg h4]
            exact plc_any zs f g (i + szO zs i) (by omega) (by omega)
def pl (zs : List Int) (i : Nat) : Option Nat := plc zs (zs.length + 1 - i) i
section
variable {zs : List Int} {i : Nat}
theorem pl_unf (hi : i ≤ zs.length) : pl zs i = if zs.length ≤ i ∨ gz zs i = 0 then none else if gz zs i = 1 then pl zs (i + 1) else if szO zs i = 0 then none else if gz zs i = 2 ∧ szO zs i = 4 then some (i + 2) else pl zs (i + szO zs i) := by
  unfold pl
  rw [show zs.length + 1 - i = (zs.length - i) + 1 by omega]
  show plc zs ((zs.length - i) + 1) i = _
  rw [plc]
  by_cases h1 : zs.length ≤ i ∨ gz zs i = 0
  · rw [if_pos h1, if_pos h1]
  · rw [if_neg h1, if_neg h1]
    have hlt : i < zs.length := by omega
    by_cases h2 : gz zs i = 1
    · rw [if_pos h2, if_pos h2]
      exact plc_any zs _ _ (i + 1) (by omega) (by omega)
    · rw [if_neg h2, if_neg h2]
      by_cases h3 : szO zs i = 0
      · rw [if_pos h3, if_pos h3]
      · rw [if_neg h3, if_neg h3]
        by_cases h4 : gz zs i = 2 ∧ szO zs i = 4
        · rw [if_pos h4, if_pos h4]
        · rw [if_neg h4, if_neg h4]
          have hs : i + szO zs i ≤ zs.length := by
            unfold szO at h3 ⊢
            split
            · omega
            · omega
          exact plc_any zs _ _ (i + szO zs i) (by omega) (by omega)
theorem pl_end (h : i = zs.length) : pl zs i = none := by rw [pl_unf (by omega), if_pos (.inl (by omega))]
theorem pl_zero (hi : i < zs.length) (h : gz zs i = 0) : pl zs i = none := by rw [pl_unf (by omega), if_pos (.inr h)]
theorem pl_one (hi : i < zs.length) (h : gz zs i = 1) : pl zs i = pl zs (i + 1) := by rw [pl_unf (by omega), if_neg (by omega), if_pos h]
theorem pl_bad (hi : i < zs.length) (h0 : gz zs i ≠ 0) (h1 : gz zs i ≠ 1) (h : szO zs i = 0) : pl zs i = none := by rw [pl_unf (by omega), if_neg (by omega), if_neg h1, if_pos h]
theorem pl_mss (hi : i < zs.length) (h2 : gz zs i = 2) (h : szO zs i = 4) : pl zs i = some (i + 2) := by rw [pl_unf (by omega), if_neg (by omega), if_neg (by omega), if_neg (by omega), if_pos ⟨h2, h⟩]
theorem pl_go (hi : i < zs.length) (h0 : gz zs i ≠ 0) (h1 : gz zs i ≠ 1) (h : szO zs i ≠ 0) (h4 : ¬ (gz zs i = 2 ∧ szO zs i = 4)) : pl zs i = pl zs (i + szO zs i) := by rw [pl_unf (by omega), if_neg (by omega), if_neg h1, if_neg h, if_neg h4]
theorem szO_le : szO zs i ≠ 0 → 2 ≤ szO zs i ∧ i + szO zs i ≤ zs.length := by
  unfold szO
  split
  · omega
  · omega
theorem szO_eq (h : szO zs i ≠ 0) : i + 1 < zs.length ∧ gz zs (i + 1) = (szO zs i : Int) := by
  unfold szO at h ⊢
  split at h
  · next hc => rw [if_pos hc]; exact ⟨hc.1, by omega⟩
  · exact absurd rfl h
end
theorem pl_bound {zs : List Int} : ∀ (i k : Nat), i ≤ zs.length → pl zs i = some k → k + 2 ≤ zs.length := by
  have key : ∀ f i k, plc zs f i = some k → k + 2 ≤ zs.length := by
    intro f
    induction f with
    | zero => intro i k h; simp [plc] at h
    | succ f ih =>
      intro i k h
      unfold plc at h
      by_cases h1 : zs.length ≤ i ∨ gz zs i = 0
      · rw [if_pos h1] at h
        cases h
      · rw [if_neg h1] at h
        by_cases h2 : gz zs i = 1
        · rw [if_pos h2] at h
          exact ih _ _ h
        · rw [if_neg h2] at h
          by_cases h3 : szO zs i = 0
          · rw [if_pos h3] at h
            cases h
          · rw [if_neg h3] at h
            by_cases h4 : gz zs i = 2 ∧ szO zs i = 4
            · rw [if_pos h4] at h
              cases h
              have := szO_le h3
              omega
            · rw [if_neg h4] at h
              exact ih _ _ h
  intro i k _ h
  exact key _ _ _ h
/-- Where a segment's size stands. -/
def mssO (t : Seg) : Option Nat := if t.fl / 2 % 2 = 0 then none else pl t.opts 0
theorem and_two : ∀ x, x < 256 → x &&& 2 = x / 2 % 2 * 2 := by decide +kernel
theorem and_syn (x : Int) (h : 0 ≤ x ∧ x ≤ 255) : bits .and .u8 x 2 = x / 2 % 2 * 2 := by
  obtain ⟨n, rfl⟩ := Int.eq_ofNat_of_zero_le h.1
  rw [show (2 : Int) = ((2 : Nat) : Int) from rfl, u8_and_nat n 2 (by omega) (by omega), and_two n (by omega)]
  omega

end Go.Proofs.Ytnlaomjhnndblaa

namespace Go.Proofs.Ytnlaomjhnndblaa
open Go Go.RowKit Go.Shelf
set_option linter.unusedVariables false
set_option linter.unusedSimpArgs false

set_option maxHeartbeats 2000000 in
set_option maxRecDepth 100000 in
theorem size_any (R b off n cap : Nat) (z : Int) (W : World) (hn : n ≤ 140737488351232) (c0 : W.cell? ⟨R, 0, none⟩ = some (.slice (some ⟨b, off, none⟩) n cap)) (h1 : 2 ≤ n → W.cell? ⟨b, off + 1, none⟩ = some (.int .u8 z)) (hz : 0 ≤ z ∧ z < 256) :
    Calls Try.prog 81 #[.pointer (some ⟨R, 0, none⟩)] W fun e w' => e = .returned (.int .i64 (if 1 < n ∧ 2 ≤ z ∧ z ≤ n then z else 0)) ∧ w' = W := by
  by_cases h2 : n < 2
  · rw [if_neg (by omega)]
    clear h1
    go_enter Try.func81, Try.ntmps81
    go_wp2
    go_ret
    exact ⟨rfl, rfl⟩
  · have k1 := h1 (by omega)
    have h2' : 1 < n := by omega
    clear h1 h2
    by_cases h3 : z < 2
    · rw [if_neg (by omega)]
      go_enter Try.func81, Try.ntmps81
      go_wp2
      go_ret
      exact ⟨rfl, rfl⟩
    · have h3' : 2 ≤ z := by omega
      clear h3
      by_cases h4 : (n : Int) < z
      · rw [if_neg (by omega)]
        go_enter Try.func81, Try.ntmps81
        go_wp2
        go_ret
        exact ⟨rfl, rfl⟩
      · have h4' : z ≤ (n : Int) := by omega
        clear h4
        rw [if_pos ⟨h2', h3', h4'⟩]
        go_enter Try.func81, Try.ntmps81
        go_wp2
        go_ret
        exact ⟨rfl, rfl⟩
theorem szO_drop (zs : List Int) (i : Nat) (hi : i < zs.length) : (if 1 < (zs.drop i).length ∧ 2 ≤ gz (zs.drop i) 1 ∧ gz (zs.drop i) 1 ≤ (zs.drop i).length then gz (zs.drop i) 1 else 0) = (szO zs i : Int) := by
  unfold szO
  rw [gz_drop, List.length_drop]
  by_cases h : i + 1 < zs.length ∧ 2 ≤ gz zs (i + 1) ∧ i + (gz zs (i + 1)).toNat ≤ zs.length
  · rw [if_pos h, if_pos (by omega)]
    omega
  · rw [if_neg h, if_neg (by omega)]
    rfl
theorem RdW.size {w W : World} {R b off cap : Nat} {ty : TypeId} {zs : List Int} {i : Nat} {cs : List Value} (h : RdW w W R ty (zs.drop i) b off cap cs) (hi : i < zs.length) :
    Calls Try.prog 81 #[.pointer (some ⟨R, 0, none⟩)] W fun e w' => e = .returned (.int .i64 (szO zs i : Int)) ∧ w' = W := by
  have k := size_any R b off (zs.drop i).length cap (gz (zs.drop i) 1) W h.row.len h.c0 (fun h2 => h.cell 1 (by omega)) (h.row.fit.gz 1)
  rw [szO_drop zs i hi] at k
  exact k
/-- How many bytes are left in a box. -/
def lenAt (R : Nat) (w : World) : Nat := match w.cell? ⟨R, 0, none⟩ with
  | some (.slice _ n _) => n
  | _ => 0
theorem RdW.lenAt {w W : World} {R b off cap : Nat} {ty : TypeId} {ys : List Int} {cs : List Value} (h : RdW w W R ty ys b off cap cs) : lenAt R W = ys.length := by
  unfold Go.Proofs.Ytnlaomjhnndblaa.lenAt
  rw [h.c0]
/-- What mssPlace tells. -/
def PlaceIs (vo : Value) (zs : List Int) (o : Option Nat) (e : Ending) : Prop :=
  match o with
  | none => e = .returned (.slice none 0 0)
  | some i => ∃ b off cap, vo = .slice (some ⟨b, off, none⟩) zs.length cap ∧ zs.length ≤ cap ∧ i + 2 ≤ zs.length ∧ 2 ≤ i ∧ e = .returned (.slice (some ⟨b, off + i, none⟩) 2 (cap - i))

set_option maxHeartbeats 4000000 in
set_option maxRecDepth 100000 in
theorem mssPlace_calls (c : List Value) (t : Seg) (vo vd : Value) (w : World) (hcc : c = [.int .u16 t.src, .int .u16 t.dst, .int .u32 t.seq, .int .u32 t.ack, .int .u8 t.fl, .int .u16 t.win, .int .u16 t.urg, vo, vd]) (hfl : 0 ≤ t.fl ∧ t.fl ≤ 255) (hr : RowC w vo t.opts) :
    Calls Try.prog 53 #[.agg c.toArray] w fun e w' => PlaceIs vo t.opts (mssO t) e ∧ Below w.heap.size w w' := by
  have b0 := blk_new w (.cells c.toArray 34)
  have hB0 := (Below.refl w.heap.size w).alloc (Nat.le_refl _) (.cells c.toArray 34)
  obtain ⟨W0, hW0⟩ : ∃ W0, w.alloc (.cells c.toArray 34) = W0 := ⟨_, rfl⟩
  rw [hW0] at b0 hB0
  have k4 := blk_cell (j := 4) b0 (by rw [hcc]; rfl)
  have k7 := blk_cell (j := 7) b0 (by rw [hcc]; rfl)
  have hand := and_syn t.fl hfl
  have hrow := hr.on hB0
  have hlen := hr.len
  have hfit := hr.fit
  unfold mssO
  generalize hfb : t.fl / 2 % 2 = fb at *
  have hfb01 : fb = 0 ∨ fb = 1 := by omega
  generalize t.fl = fl at *
  generalize t.opts = zs at *
  have HB0 : Hid _ := hB0
  rcases hfb01 with rfl | rfl
  · rw [if_pos rfl]
    obtain ⟨av, cv, rfl, _⟩ := hr.val
    clear b0 hB0 hrow hr hcc hfb
    go_enter Try.func53, Try.ntmps53
    go_wp2
    go_ret
    exact ⟨rfl, HB0.out⟩
  · rw [if_neg (by decide)]
    by_cases h0 : zs.length = 0
    · have hp : pl zs 0 = none := pl_end (by omega)
      rw [hp]
      obtain ⟨av, cv, rfl, _⟩ := hr.val
      rw [h0] at k7 hcc ⊢
      obtain ⟨W1, hst1, b1, hb1⟩ := box_new Try.sizeOf128 W0 [.slice none 0 0] rfl [.slice av 0 cv] rfl (by simp [Value.oneCell'])
      have HST : Hid _ := hst1
      have c1 := blk_cell (j := 0) b1 rfl
      have HX : Hid (Below w.heap.size w W1) := hB0.trans (hb1.mono hB0.size)
      clear b0 hB0 hrow hr hst1 b1 hb1 hp hcc hfb
      go_enter Try.func53, Try.ntmps53
      go_wp2_with ((with_reducible show wpList _ _ _ _ _ _); refine arm_store rfl (.tmp 3) (.tmp 12) 128 rfl rfl rfl HST.out ?_)
      try simp only [Act.put, List.setIfInBounds_toArray, List.set_cons_zero, List.set_cons_succ]
      go_loopw [4] (fun n wr => wr = W1) (fun _ _ => 0)
      case atStart => exact rfl
      case round =>
        obtain rfl := hrel
        go_wp2
        go_ret
        exact ⟨rfl, HX.out⟩
    · obtain ⟨b, off, cap, hS⟩ := hrow.rowS (by omega)
      have hv := hS.val
      subst hv
      obtain ⟨W1, hst1, b1, hb1⟩ := box_new Try.sizeOf128 W0 [.slice none 0 0] rfl [.slice (some ⟨b, off, none⟩) zs.length cap] rfl (by simp [Value.oneCell'])
      have HST : Hid _ := hst1
      have hR : RdW W0 W1 W0.heap.size 128 (zs.drop 0) b off (cap - 0) [] := ⟨b1, Nat.le_refl _, hb1, by simpa using hS⟩
      have HR : Hid _ := hR
      have hcap := hS.room
      have HPI : Hid (∀ i, i + 2 ≤ zs.length → 2 ≤ i → pl zs 0 = some i → PlaceIs (.slice (some ⟨b, off, none⟩) zs.length cap) zs (pl zs 0) (.returned (.slice (some ⟨b, off + i, none⟩) 2 (cap - i)))) := fun i h2 h3 h => by
        rw [h]
        exact ⟨b, off, cap, rfl, hcap, h2, h3, rfl⟩
      have HPN : Hid (pl zs 0 = none → PlaceIs (.slice (some ⟨b, off, none⟩) zs.length cap) zs (pl zs 0) (.returned (.slice none 0 0))) := fun h => by
        rw [h]
        exact rfl
      have HGZ : Hid (∀ k, 0 ≤ gz zs k ∧ gz zs k < 256) := fun k => hfit.gz k
      clear b0 hB0 hrow hr hst1 b1 hb1 hS hR hcc hfb hfit
      go_enter Try.func53, Try.ntmps53
      go_wp2_with ((with_reducible show wpList _ _ _ _ _ _); refine arm_store rfl (.tmp 3) (.tmp 12) 128 rfl rfl rfl HST.out ?_)
      try simp only [Act.put, List.setIfInBounds_toArray, List.set_cons_zero, List.set_cons_succ]
      go_loopw [4] (fun n wr => ∃ i off', i ≤ zs.length ∧ RdW W0 wr W0.heap.size 128 (zs.drop i) b off' (cap - i) [] ∧ (i < zs.length → off' = off + i) ∧ pl zs 0 = pl zs i) (fun _ wr => lenAt W0.heap.size wr)
      case atStart => exact ⟨0, off, by omega, HR.out, fun _ => by omega, rfl⟩
      case round =>
        obtain ⟨i, off', hi, hrd, hoff, hpl⟩ := hrel
        have HRD : Hid _ := hrd
        have c0 := hrd.c0
        have hll : (zs.drop i).length = zs.length - i := by simp
        have HLA : Hid (lenAt W0.heap.size wr = zs.length - i) := hrd.lenAt.trans hll
        rw [hll] at c0
        have HPL : Hid _ := hpl
        have HX : Hid (Below w.heap.size w wr) := HB0.out.trans (hrd.bel.mono HB0.out.size)
        by_cases hlt : i < zs.length
        · obtain rfl := hoff hlt
          have g0 := hrd.cell 0 (by rw [hll]; omega)
          rw [Nat.add_zero, gz_drop, Nat.add_zero] at g0
          have hlL : 0 < zs.length - i := by omega
          have hzr := HGZ.out i
          obtain ⟨z, hz⟩ : ∃ z, gz zs i = z := ⟨_, rfl⟩
          rw [hz] at g0 hzr
          have HZ : Hid _ := hz
          have HSZ : Hid _ := hrd.size hlt
          have HNEXT : Hid (∀ n w', 0 < n → i + n ≤ zs.length → pl zs i = pl zs (i + n) → RdW W0 w' W0.heap.size 128 ((zs.drop i).drop n) b (nxt (off + i) (cap - i) n) (cap - i - n) [] → (∃ i off', i ≤ zs.length ∧ RdW W0 w' W0.heap.size 128 (zs.drop i) b off' (cap - i) [] ∧ (i < zs.length → off' = off + i) ∧ pl zs 0 = pl zs i) ∧ lenAt W0.heap.size w' < lenAt W0.heap.size wr) := fun n w' hn0 hn hp hr' => by
            rw [List.drop_drop, Nat.sub_sub] at hr'
            refine ⟨⟨i + n, _, hn, hr', fun h => ?_, HPL.out.trans hp⟩, ?_⟩
            · unfold nxt
              rw [if_neg (by omega)]
              omega
            · rw [hr'.lenAt, HLA.out]
              simp
              omega
          clear hrd hll hz hpl hoff
          by_cases z0 : z = 0
          · subst z0
            have HP : Hid (PlaceIs (.slice (some ⟨b, off, none⟩) zs.length cap) zs (pl zs 0) (.returned (.slice none 0 0))) := HPN.out (HPL.out.trans (pl_zero hlt HZ.out))
            go_wp2
            go_ret
            exact ⟨HP.out, HX.out⟩
          · by_cases z1 : z = 1
            · subst z1
              have HRUN : Hid _ := HRD.out.run 1 (by simp; omega)
              have HP : Hid _ := pl_one hlt HZ.out
              go_wp2_with fail
              refine Calls.mono HRUN.out ?_
              rintro _ w2 ⟨rfl, hr2⟩
              have HN : Hid _ := HNEXT.out 1 w2 (by decide) (by omega) HP.out hr2
              clear hr2
              go_wp2
              exact HN.out
            · have q0 : (z == 0) = false := by simpa using z0
              have q1 : (z == 1) = false := by simpa using z1
              by_cases hs0 : szO zs i = 0
              · have HP : Hid (PlaceIs (.slice (some ⟨b, off, none⟩) zs.length cap) zs (pl zs 0) (.returned (.slice none 0 0))) := HPN.out (HPL.out.trans (pl_bad hlt (by rw [HZ.out]; exact z0) (by rw [HZ.out]; exact z1) hs0))
                rw [hs0] at HSZ
                clear z0 z1
                by_cases z2 : z = 2
                · subst z2
                  go_wp2_with fail
                  refine Calls.mono HSZ.out ?_
                  rintro _ w2 ⟨rfl, hw2⟩
                  obtain rfl : wr = w2 := hw2.symm
                  clear hw2
                  go_wp2_with fail
                  refine Calls.mono HSZ.out ?_
                  rintro _ w2 ⟨rfl, hw2⟩
                  obtain rfl : wr = w2 := hw2.symm
                  clear hw2
                  go_wp2
                  go_ret
                  exact ⟨HP.out, HX.out⟩
                · have q2 : (z == 2) = false := by simpa using z2
                  clear z2
                  go_wp2_with fail
                  refine Calls.mono HSZ.out ?_
                  rintro _ w2 ⟨rfl, hw2⟩
                  obtain rfl : wr = w2 := hw2.symm
                  clear hw2
                  go_wp2
                  go_ret
                  exact ⟨HP.out, HX.out⟩
              · obtain ⟨hs2, hsl⟩ := szO_le hs0
                by_cases z2 : z = 2
                · subst z2
                  by_cases h4 : szO zs i = 4
                  · rw [h4] at HSZ hsl
                    have HRUN : Hid _ := HRD.out.run 4 (by simp; omega)
                    have HP : Hid _ := HPI.out (i + 2) (by omega) (by omega) (HPL.out.trans (pl_mss hlt HZ.out h4))
                    have hne : (cap - i = 2) = False := eq_false (by omega)
                    have hc4 : 4 ≤ cap - i := by omega
                    have hof : off + i + 2 = off + (i + 2) := by omega
                    have hsb : cap - i - 2 = cap - (i + 2) := by omega
                    clear z0 z1 q0 q1 hs0 hs2
                    go_wp2_with fail
                    refine Calls.mono HSZ.out ?_
                    rintro _ w2 ⟨rfl, hw2⟩
                    obtain rfl : wr = w2 := hw2.symm
                    clear hw2
                    go_wp2_with fail
                    refine Calls.mono HRUN.out ?_
                    rintro _ w2 ⟨rfl, hr2⟩
                    have HX2 : Hid (Below w.heap.size w w2) := HB0.out.trans (hr2.bel.mono HB0.out.size)
                    clear hr2
                    go_wp2
                    go_ret
                    exact ⟨HP.out, HX2.out⟩
                  · have q4 : ((szO zs i : Int) == 4) = false := by simp; omega
                    have q5 : ((szO zs i : Int) == 0) = false := by simp; omega
                    have HP : Hid _ := pl_go hlt (by rw [HZ.out]; decide) (by rw [HZ.out]; decide) hs0 (fun k => h4 k.2)
                    have HRUN : Hid _ := HRD.out.run (szO zs i) (by simp; omega)
                    have HN0 : Hid _ := HNEXT.out (szO zs i)
                    generalize szO zs i = sn at *
                    clear z0 z1 q0 q1 hs0 h4
                    go_wp2_with fail
                    refine Calls.mono HSZ.out ?_
                    rintro _ w2 ⟨rfl, hw2⟩
                    obtain rfl : wr = w2 := hw2.symm
                    clear hw2
                    go_wp2_with fail
                    refine Calls.mono HSZ.out ?_
                    rintro _ w2 ⟨rfl, hw2⟩
                    obtain rfl : wr = w2 := hw2.symm
                    clear hw2
                    go_wp2_with fail
                    refine Calls.mono HRUN.out ?_
                    rintro _ w2 ⟨rfl, hr2⟩
                    have HN : Hid _ := HN0.out w2 (by omega) hsl HP.out hr2
                    clear hr2
                    go_wp2
                    exact HN.out
                · have q2 : (z == 2) = false := by simpa using z2
                  have q5 : ((szO zs i : Int) == 0) = false := by simp; omega
                  have HP : Hid _ := pl_go hlt (by rw [HZ.out]; exact z0) (by rw [HZ.out]; exact z1) hs0 (fun k => z2 (HZ.out ▸ k.1))
                  have HRUN : Hid _ := HRD.out.run (szO zs i) (by simp; omega)
                  have HN0 : Hid _ := HNEXT.out (szO zs i)
                  generalize szO zs i = sn at *
                  clear z0 z1 z2 hs0
                  go_wp2_with fail
                  refine Calls.mono HSZ.out ?_
                  rintro _ w2 ⟨rfl, hw2⟩
                  obtain rfl : wr = w2 := hw2.symm
                  clear hw2
                  go_wp2_with fail
                  refine Calls.mono HRUN.out ?_
                  rintro _ w2 ⟨rfl, hr2⟩
                  have HN : Hid _ := HN0.out w2 (by omega) hsl HP.out hr2
                  clear hr2
                  go_wp2
                  exact HN.out
        · obtain rfl : i = zs.length := by omega
          have HP : Hid (PlaceIs (.slice (some ⟨b, off, none⟩) zs.length cap) zs (pl zs 0) (.returned (.slice none 0 0))) := HPN.out (HPL.out.trans (pl_end rfl))
          have hll0 : zs.length - zs.length = 0 := by omega
          rw [hll0] at c0
          clear hrd hll hpl hoff
          go_wp2
          go_ret
          exact ⟨HP.out, HX.out⟩

end Go.Proofs.Ytnlaomjhnndblaa

namespace Go.Proofs.Ytnlaomjhnndblaa
open Go Go.RowKit Go.Shelf
set_option linter.unusedVariables false
set_option linter.unusedSimpArgs false

def mssN (t : Seg) : Int := match mssO t with
  | none => 0
  | some i => wd2 t.opts i
def mssB (t : Seg) : Bool := (mssO t).isSome
/-- A segment's cells, its options a row. -/
structure TcpA (w : World) (c : List Value) (t : Seg) : Prop where
  val : ∃ vo vd, c = [.int .u16 t.src, .int .u16 t.dst, .int .u32 t.seq, .int .u32 t.ack, .int .u8 t.fl, .int .u16 t.win, .int .u16 t.urg, vo, vd] ∧ RowC w vo t.opts ∧ BytesAt w.heap.size w vd t.data
  all : TcpC w c t
theorem TcpA.on {w W : World} {c : List Value} {t : Seg} (h : TcpA w c t) (hb : Below w.heap.size w W) : TcpA W c t := by
  obtain ⟨⟨vo, vd, h1, h2, h3⟩, h4⟩ := h
  exact ⟨⟨vo, vd, h1, h2.on hb, h3.later hb⟩, h4.on hb⟩

set_option maxHeartbeats 2000000 in
set_option maxRecDepth 100000 in
theorem MSS_calls (c : List Value) (t : Seg) (w : World) (h : TcpA w c t) :
    Calls Try.prog 28 #[.agg c.toArray] w fun e w' => e = .returned (.tuple #[.int .i64 (mssN t), .bool (mssB t)]) ∧ Below w.heap.size w w' := by
  obtain ⟨⟨vo, vd, hcc, hr, hd⟩, hall⟩ := h
  have b0 := blk_new w (.cells c.toArray 34)
  have hB0 := (Below.refl w.heap.size w).alloc (Nat.le_refl _) (.cells c.toArray 34)
  obtain ⟨W0, hW0⟩ : ∃ W0, w.alloc (.cells c.toArray 34) = W0 := ⟨_, rfl⟩
  rw [hW0] at b0 hB0
  have HL : Hid _ := agg_load (t := 34) Try.isAgg34 Try.sizeOf34 hall.len (CellsAt.of_blk b0)
  have HP : Hid _ := mssPlace_calls c t vo vd W0 hcc ⟨hall.ff.1, by have := hall.ff.2; omega⟩ (hr.on hB0)
  have HB0 : Hid _ := hB0
  have HRW : Hid (∀ W, Below W0.heap.size W0 W → RowC W vo t.opts) := fun W hW => hr.on (hB0.trans (hW.mono hB0.size))
  unfold mssN mssB
  clear b0 hB0 hall hd hcc hr
  cases ho : mssO t with
  | none =>
    rw [ho] at HP
    have hq := fun W => Go.Lib.run_eql_slice_nil (P := Try.prog) W 29 5 none 0 0 0 0 Try.underlying29
    clear ho
    go_enter Try.func28, Try.ntmps28
    go_wp2_with ((with_reducible show wpList _ _ _ _ _ _); refine arm_load rfl (.tmp 1) 34 rfl rfl HL.out ?_)
    refine Calls.mono HP.out ?_
    rintro _ w1 ⟨rfl, hb1⟩
    have hq1 := hq w1
    have HX : Hid _ := HB0.out.trans (hb1.mono HB0.out.size)
    clear hb1 hq
    go_wp2
    go_ret2
    exact ⟨rfl, HX.out⟩
  | some i =>
    rw [ho] at HP
    clear ho
    go_enter Try.func28, Try.ntmps28
    go_wp2_with ((with_reducible show wpList _ _ _ _ _ _); refine arm_load rfl (.tmp 1) 34 rfl rfl HL.out ?_)
    refine Calls.mono HP.out ?_
    rintro _ w1 ⟨⟨b, off, cap, rfl, hcap, hi2, _, rfl⟩, hb1⟩
    have hR := HRW.out w1 hb1
    obtain ⟨b', off', cap', hS⟩ := hR.rowS (by omega)
    obtain ⟨e1, e2, e3⟩ : b = b' ∧ off = off' ∧ cap = cap' := by
      have k := hS.val
      simp at k
      exact ⟨k.1.1, k.1.2, k.2⟩
    subst e1 e2 e3
    have HW : Hid _ := wordOf_calls b (off + i) 2 (cap - i) (gz t.opts i) (gz t.opts (i + 1)) w1 (by decide) (hS.cell i (by omega)) (by rw [Nat.add_assoc]; exact hS.cell (i + 1) (by omega)) (hS.fit.gz i) (hS.fit.gz (i + 1))
    have hwr := wd2_range hS.fit i
    have hq1 := Go.Lib.run_eql_slice_nil (P := Try.prog) w1 29 5 (some ⟨b, off + i, none⟩) 2 (cap - i) 0 0 Try.underlying29
    have HX : Hid _ := HB0.out.trans (hb1.mono HB0.out.size)
    have hwe : gz t.opts i * 256 + gz t.opts (i + 1) = wd2 t.opts i := rfl
    rw [hwe] at HW
    obtain ⟨x, hx⟩ : ∃ x, wd2 t.opts i = x := ⟨_, rfl⟩
    rw [hx] at HW hwr
    have HXE : Hid _ := hx
    clear hx
    clear hR hS hb1 HRW HP hwe
    go_wp2_with fail
    refine Calls.mono HW.out ?_
    rintro _ w2 ⟨rfl, rfl⟩
    go_wp2
    go_ret2
    obtain rfl := HXE.out
    exact ⟨rfl, HX.out.drew⟩

/-- place of the document. -/
def plI (o : Option Nat) : Int := match o with
  | none => -1
  | some i => (i : Int)
set_option maxHeartbeats 4000000 in
set_option maxRecDepth 100000 in
theorem place_calls (c : List Value) (t : Seg) (w : World) (h : TcpC w c t) :
    Calls Try.prog 55 #[.agg c.toArray] w fun e w' => e = .returned (.int .i64 (plI (mssO t))) ∧ Below w.heap.size w w' := by
  obtain ⟨⟨vo, vd, hcc, hr, hd⟩, _, _, _, _, hfl, _⟩ := h
  have b0 := blk_new w (.cells c.toArray 34)
  have hB0 := (Below.refl w.heap.size w).alloc (Nat.le_refl _) (.cells c.toArray 34)
  obtain ⟨W0, hW0⟩ : ∃ W0, w.alloc (.cells c.toArray 34) = W0 := ⟨_, rfl⟩
  rw [hW0] at b0 hB0
  have k4 := blk_cell (j := 4) b0 (by rw [hcc]; rfl)
  have k7 := blk_cell (j := 7) b0 (by rw [hcc]; rfl)
  have hand := and_syn t.fl ⟨hfl.1, by omega⟩
  have hrow := hr.later hB0
  have hlen := hr.len
  have hfit := hr.fit
  unfold mssO
  generalize hfb : t.fl / 2 % 2 = fb at *
  have hfb01 : fb = 0 ∨ fb = 1 := by omega
  generalize t.fl = fl at *
  generalize t.opts = zs at *
  have HB0 : Hid _ := hB0
  rcases hfb01 with rfl | rfl
  · rw [if_pos rfl]
    obtain ⟨av, cv, rfl, _⟩ := hr.val
    clear b0 hB0 hrow hr hcc hfb
    go_enter Try.func55, Try.ntmps55
    go_wp2
    go_ret
    exact ⟨rfl, HB0.out⟩
  · rw [if_neg (by decide)]
    obtain ⟨av, cv, rfl, hz⟩ := hrow.val
    have HCE : Hid (∀ j, j < zs.length → ∃ b off, av = some ⟨b, off, none⟩ ∧ W0.cell? ⟨b, off + j, none⟩ = some (.int .u8 (gz zs j))) := fun j hj => by
      rcases hz with hz | ⟨b, off, e, _, hc⟩
      · omega
      · exact ⟨b, off, e, hc j hj⟩
    have HGZ : Hid (∀ k, 0 ≤ gz zs k ∧ gz zs k < 256) := fun k => hfit.gz k
    obtain ⟨pr, hpr⟩ : ∃ pr, plI (pl zs 0) = pr := ⟨_, rfl⟩
    rw [hpr]
    have HPR : Hid _ := hpr
    clear b0 hB0 hrow hr hcc hfb hfit hz hpr
    go_enter Try.func55, Try.ntmps55
    go_wp2
    go_loopw [4] (fun n wr => ∃ i : Nat, i ≤ zs.length ∧ n = .int .i64 (i : Int) ∧ pl zs 0 = pl zs i ∧ wr = W0) (fun n _ => zs.length - (intOf n).toNat)
    case atStart => exact ⟨0, by omega, rfl, rfl, rfl⟩
    case round =>
      obtain ⟨i, hi, rfl, hpl, hwr⟩ := hrel
      subst hwr
      have HPL : Hid _ := hpl
      have HNO : Hid (pl zs i = none → pr = -1) := fun k => by rw [← HPR.out, HPL.out, k]; rfl
      clear hpl
      by_cases hlt : i < zs.length
      · obtain ⟨b, off, rfl, g0⟩ := HCE.out i hlt
        have hzr := HGZ.out i
        obtain ⟨z, hz⟩ : ∃ z, gz zs i = z := ⟨_, rfl⟩
        rw [hz] at g0 hzr
        have HZ : Hid _ := hz
        clear hz
        by_cases z0 : z = 0
        · subst z0
          have HP : Hid _ := HNO.out (pl_zero hlt HZ.out)
          go_wp2
          go_ret
          exact ⟨by rw [HP.out]; rfl, HB0.out⟩
        · have q0 : (z != 0) = true := by simpa using z0
          by_cases z1 : z = 1
          · subst z1
            have HP : Hid _ := pl_one hlt HZ.out
            go_wp2
            exact ⟨⟨i + 1, by omega, by simp, HPL.out.trans HP.out, trivial⟩, by simp [intOf]; omega⟩
          · have q1 : (z == 1) = false := by simpa using z1
            by_cases h1 : i + 1 < zs.length
            · obtain ⟨b', off', e', g1⟩ := HCE.out (i + 1) h1
              cases e'
              have hyr := HGZ.out (i + 1)
              obtain ⟨y, hy⟩ : ∃ y, gz zs (i + 1) = y := ⟨_, rfl⟩
              rw [hy] at g1 hyr
              have HY : Hid _ := hy
              clear hy
              have HSO : Hid (szO zs i = if 2 ≤ y ∧ i + y.toNat ≤ zs.length then y.toNat else 0) := by
                have : szO zs i = if 2 ≤ y ∧ i + y.toNat ≤ zs.length then y.toNat else 0 := by
                  unfold szO
                  rw [HY.out]
                  by_cases k : 2 ≤ y ∧ i + y.toNat ≤ zs.length
                  · rw [if_pos ⟨h1, k⟩, if_pos k]
                  · rw [if_neg (fun q => k q.2), if_neg k]
                exact this
              by_cases hy2 : 2 ≤ y
              · by_cases hyl : (i : Int) + y ≤ zs.length
                · have hso : szO zs i = y.toNat := by rw [HSO.out, if_pos ⟨hy2, by omega⟩]
                  by_cases h24 : z = 2 ∧ y = 4
                  · obtain ⟨rfl, rfl⟩ := h24
                    have HP : Hid (pr = (i : Int) + 2) := by
                      have : pr = (i : Int) + 2 := by
                        rw [← HPR.out, HPL.out, pl_mss hlt HZ.out (by rw [hso]; rfl)]
                        simp [plI]
                      exact this
                    clear hso
                    go_wp2
                    go_ret
                    exact ⟨by rw [HP.out]; rfl, HB0.out⟩
                  · have HP : Hid _ := pl_go hlt (by rw [HZ.out]; exact z0) (by rw [HZ.out]; exact z1) (by omega) (fun k => h24 ⟨HZ.out ▸ k.1, by have := k.2; omega⟩)
                    rw [hso] at HP
                    have hyn : (i : Int) + y = ((i + y.toNat : Nat) : Int) := by omega
                    have HYN : Hid _ := hyn
                    have hyl2 : i + y.toNat ≤ zs.length := by omega
                    clear hso hyn
                    by_cases z2 : z = 2
                    · subst z2
                      have q4 : (y == 4) = false := by simpa using h24
                      clear h24
                      go_wp2
                      exact ⟨⟨i + y.toNat, hyl2, by rw [HYN.out], HPL.out.trans HP.out, trivial⟩, by rw [HYN.out]; simp [intOf]; omega⟩
                    · have q2 : (z == 2) = false := by simpa using z2
                      clear h24 z2
                      go_wp2
                      exact ⟨⟨i + y.toNat, hyl2, by rw [HYN.out], HPL.out.trans HP.out, trivial⟩, by rw [HYN.out]; simp [intOf]; omega⟩
                · have hyl' : (zs.length : Int) < (i : Int) + y := by omega
                  have HP : Hid _ := HNO.out (pl_bad hlt (by rw [HZ.out]; exact z0) (by rw [HZ.out]; exact z1) (by rw [HSO.out, if_neg (by omega)]))
                  clear hyl
                  go_wp2
                  go_ret
                  exact ⟨by rw [HP.out]; rfl, HB0.out⟩
              · have hy2' : y < 2 := by omega
                have HP : Hid _ := HNO.out (pl_bad hlt (by rw [HZ.out]; exact z0) (by rw [HZ.out]; exact z1) (by rw [HSO.out, if_neg (by omega)]))
                clear hy2
                go_wp2
                go_ret
                exact ⟨by rw [HP.out]; rfl, HB0.out⟩
            · have h1' : zs.length ≤ i + 1 := by omega
              have HP : Hid _ := HNO.out (pl_bad hlt (by rw [HZ.out]; exact z0) (by rw [HZ.out]; exact z1) (by unfold szO; rw [if_neg (fun k => h1 k.1)]))
              clear h1
              go_wp2
              go_ret
              exact ⟨by rw [HP.out]; rfl, HB0.out⟩
      · obtain rfl : i = zs.length := by omega
        have HP : Hid _ := HNO.out (pl_end rfl)
        go_wp2
        go_ret
        exact ⟨by rw [HP.out]; rfl, HB0.out⟩

end Go.Proofs.Ytnlaomjhnndblaa

namespace Go.Proofs.Ytnlaomjhnndblaa
open Go Go.RowKit Go.Shelf
set_option linter.unusedVariables false
set_option linter.unusedSimpArgs false

set_option maxHeartbeats 2000000 in
set_option maxRecDepth 100000 in
theorem RMSS_calls (c : List Value) (t : Seg) (w : World) (h : TcpA w c t) :
    Calls Try.prog 29 #[.agg c.toArray] w fun e w' => e = .returned (.tuple #[.int .i64 (mssN t), .bool (mssB t)]) ∧ Below w.heap.size w w' := by
  obtain ⟨⟨vo, vd, hcc, hr, hd⟩, hall⟩ := h
  have b0 := blk_new w (.cells c.toArray 34)
  have hB0 := (Below.refl w.heap.size w).alloc (Nat.le_refl _) (.cells c.toArray 34)
  obtain ⟨W0, hW0⟩ : ∃ W0, w.alloc (.cells c.toArray 34) = W0 := ⟨_, rfl⟩
  rw [hW0] at b0 hB0
  have HL : Hid _ := agg_load (t := 34) Try.isAgg34 Try.sizeOf34 hall.len (CellsAt.of_blk b0)
  have HP : Hid _ := place_calls c t W0 (hall.on hB0)
  have HB0 : Hid _ := hB0
  have HRW : Hid (∀ W, Below W0.heap.size W0 W → RowC W vo t.opts) := fun W hW => hr.on (hB0.trans (hW.mono hB0.size))
  have HK7 : Hid (∀ W, Below W0.heap.size W0 W → W.cell? ⟨w.heap.size, 7, none⟩ = some vo) := fun W hW => blk_cell (j := 7) (blk_on b0 hW) (by rw [hcc]; rfl)
  have hpb : Hid (∀ i, mssO t = some i → i + 2 ≤ t.opts.length) := fun i hi => by
    unfold mssO at hi
    split at hi
    · cases hi
    · exact pl_bound 0 i (Nat.zero_le _) hi
  obtain ⟨av, cv, rfl, _⟩ := hr.val
  unfold mssN mssB
  clear b0 hB0 hall hd hcc hr
  cases ho : mssO t with
  | none =>
    rw [ho] at HP
    clear ho
    go_enter Try.func29, Try.ntmps29
    go_wp2_with ((with_reducible show wpList _ _ _ _ _ _); refine arm_load rfl (.tmp 1) 34 rfl rfl HL.out ?_)
    refine Calls.mono HP.out ?_
    rintro _ w1 ⟨rfl, hb1⟩
    have HX : Hid _ := HB0.out.trans (hb1.mono HB0.out.size)
    have hm1 : plI none = -1 := rfl
    rw [hm1]
    clear hb1 hm1
    go_wp2
    go_ret2
    exact ⟨rfl, HX.out⟩
  | some i =>
    have hi2 := hpb.out i ho
    rw [ho] at HP
    clear ho
    go_enter Try.func29, Try.ntmps29
    go_wp2_with ((with_reducible show wpList _ _ _ _ _ _); refine arm_load rfl (.tmp 1) 34 rfl rfl HL.out ?_)
    refine Calls.mono HP.out ?_
    rintro _ w1 ⟨rfl, hb1⟩
    have hR := HRW.out w1 hb1
    have k7 := HK7.out w1 hb1
    have hg := get_calls _ _ i 2 w1 hR.bytes (by decide) hi2
    have hge : getB t.opts i 2 = wd2 t.opts i := by simp [getB, wd2]
    rw [hge] at hg
    have hwr := wd2_range hR.fit i
    obtain ⟨x, hx⟩ : ∃ x, wd2 t.opts i = x := ⟨_, rfl⟩
    rw [hx] at hg hwr
    have HXE : Hid _ := hx
    have HG : Hid _ := hg
    have HX : Hid _ := HB0.out.trans (hb1.mono HB0.out.size)
    have hm1 : plI (some i) = (i : Int) := rfl
    rw [hm1]
    have hlen := hR.len
    have hi0 : i ≤ 140737488351232 := by omega
    clear hb1 hm1 hR HRW HK7 HP hg hge hx hpb
    go_wp2_with fail
    refine Calls.mono HG.out ?_
    rintro _ w2 ⟨rfl, hw2⟩
    obtain rfl : w1 = w2 := hw2.symm
    clear hw2
    go_wp2
    go_ret2
    obtain rfl := HXE.out
    exact ⟨rfl, HX.out⟩

/-- A copy in memory of its own, or nothing. -/
def CpV (B : Nat) (W : World) (u : Value) (zs : List Int) : Prop := (zs = [] ∧ ∃ a k, u = .slice a 0 k) ∨ ∃ g k, u = .slice (some ⟨g, 0, none⟩) zs.length k ∧ zs.length ≤ k ∧ B ≤ g ∧ OwnG W g zs
theorem CpV.slc {B : Nat} {W : World} {u : Value} {zs : List Int} (h : CpV B W u zs) : ∃ a k, u = .slice a zs.length k := by
  rcases h with ⟨rfl, a, k, e⟩ | ⟨g, k, e, _⟩
  · exact ⟨a, k, e⟩
  · exact ⟨_, k, e⟩
theorem CpV.on {B : Nat} {W W' : World} {u : Value} {zs : List Int} (h : CpV B W u zs) (hb : Below W.heap.size W W') : CpV B W' u zs := h.imp (fun h => h) (fun ⟨g, k, e, h1, h2, h3⟩ => ⟨g, k, e, h1, h2, h3.kept h3.lt hb⟩)
theorem CpV.off {B g : Nat} {W W' : World} {u : Value} {zs : List Int} (h : CpV B W u zs) (hg : g < B) (ho : Only g W W') : CpV B W' u zs := h.imp (fun h => h) (fun ⟨g', k, e, h1, h2, h3⟩ => ⟨g', k, e, h1, h2, h3.off ho (by omega)⟩)
theorem CpV.old {B B' : Nat} {W : World} {u : Value} {zs : List Int} (h : CpV B W u zs) (hB : B' ≤ B) : CpV B' W u zs := h.imp (fun h => h) (fun ⟨g', k, e, h1, h2, h3⟩ => ⟨g', k, e, h1, Nat.le_trans hB h2, h3⟩)
theorem CpV.row {B : Nat} {W : World} {u : Value} {zs : List Int} (h : CpV B W u zs) (hf : Fit zs) (hl : zs.length ≤ 140737488351232) : RowC W u zs := by
  rcases h with ⟨rfl, a, k, rfl⟩ | ⟨g, k, rfl, h1, h2, h3⟩
  · exact ⟨hf, hl, a, k, rfl, Nat.zero_le _, .inl rfl⟩
  · exact .of_bytes (h3.all hf hl zs.length k rfl) h1
set_option maxHeartbeats 1000000 in
set_option maxRecDepth 100000 in
theorem Clone_cp (v : Value) (zs : List Int) (w : World) (h : BytesAt w.heap.size w v zs) :
    Calls Try.prog 56 #[v] w fun e w' => ∃ u, e = .returned u ∧ (CpV w.heap.size w' u zs ∧ Below w.heap.size w w') := by
  obtain ⟨hf, hl, a, cap, rfl, hv⟩ := id h
  cases a with
  | none =>
    have h0 : zs = [] := by
      rcases hv with hv | ⟨b, off, e, _⟩
      · exact List.length_eq_zero_iff.1 hv
      · cases e
    subst h0
    have hB := Below.refl w.heap.size w
    have hN : CpV w.heap.size w (.slice none 0 0) [] := .inl ⟨rfl, _, _, rfl⟩
    have HN : Hid (CpV w.heap.size w (.slice none 0 0) []) := hN
    have hq := Go.Lib.run_eql_slice_nil (P := Try.prog) w 29 5 none 0 cap 0 0 Try.underlying29
    clear h hf hl hv hN
    go_enter Try.func56, Try.ntmps56
    go_wp2
    go_ret
    exact ⟨_, rfl, HN.out, hB⟩
  | some x =>
    have hB0 := (Below.refl w.heap.size w).alloc (Nat.le_refl _) (.cells #[] 5)
    obtain ⟨b, cap2, w2, hrun, hc, hb2, hown⟩ := bytes_copied3 (h.later hB0) w.heap.size 29
    have hbl := hB0.trans (hb2.mono hB0.size)
    have hcp : CpV w.heap.size w2 (.slice (some ⟨b, 0, none⟩) zs.length cap2) zs := by
      rcases hown with ⟨rfl, _⟩ | ⟨h1, h2⟩
      · exact .inl ⟨rfl, _, _, rfl⟩
      · exact .inr ⟨b, cap2, rfl, hc, Nat.le_trans hB0.size h1, h2⟩
    have HCP : Hid (CpV w.heap.size w2 (.slice (some ⟨b, 0, none⟩) zs.length cap2) zs) := hcp
    have H0 : Hid _ := hrun
    have hq := Go.Lib.run_eql_slice_nil (P := Try.prog) w 29 5 (some x) zs.length cap 0 0 Try.underlying29
    clear h hf hl hv hrun hb2 hB0 hown hcp
    go_enter Try.func56, Try.ntmps56
    go_wp2_with (at_builtin; refine wpList_append_run rfl _ _ _ _ rfl rfl rfl H0.out ?_; clear H0)
    go_ret
    exact ⟨_, rfl, HCP.out, hbl⟩
/-- Where Clamp writes. -/
def clO (t : Seg) (most : Int) : Option Nat := match mssO t with
  | none => none
  | some i => if wd2 t.opts i ≤ most then none else some i
def clT (t : Seg) (most : Int) : Seg := match clO t most with
  | none => t
  | some i => ⟨t.src, t.dst, t.seq, t.ack, t.fl, t.win, t.urg, laid t.opts i (w2 (max most 0)), t.data⟩
def clB (t : Seg) (most : Int) : Bool := (clO t most).isSome

end Go.Proofs.Ytnlaomjhnndblaa
