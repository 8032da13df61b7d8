/-
  size and mssPlace of package segment.
-/
import Derived.Test.YtodbgomoedhfaaaSn1
namespace Go.Proofs.Ytodbgomoedhfaaa
open Go Go.RowKit Go.Shelf
set_option linter.unusedVariables false
set_option linter.unusedSimpArgs false

set_option maxHeartbeats 2000000 in
set_option maxRecDepth 100000 in
theorem size_any (R b off n cap : Nat) (z : Int) (W : World) (hn : n ≤ 140737488351232) (c0 : W.cell? ⟨R, 0, none⟩ = some (.slice (some ⟨b, off, none⟩) n cap)) (h1 : 2 ≤ n → W.cell? ⟨b, off + 1, none⟩ = some (.int .u8 z)) (hz : 0 ≤ z ∧ z < 256) :
    Calls Try.prog 81 #[.pointer (some ⟨R, 0, none⟩)] W fun e w' => e = .returned (.int .i64 (if 1 < n ∧ 2 ≤ z ∧ z ≤ n then z else 0)) ∧ w' = W := by
  by_cases h2 : n < 2
  · rw [if_neg (by omega)]
    clear h1
    go_enter Try.func81, Try.ntmps81
    go_wp2
    go_ret
    exact ⟨rfl, rfl⟩
  · have k1 := h1 (by omega)
    have h2' : 1 < n := by omega
    clear h1 h2
    by_cases h3 : z < 2
    · rw [if_neg (by omega)]
      go_enter Try.func81, Try.ntmps81
      go_wp2
      go_ret
      exact ⟨rfl, rfl⟩
    · have h3' : 2 ≤ z := by omega
      clear h3
      by_cases h4 : (n : Int) < z
      · rw [if_neg (by omega)]
        go_enter Try.func81, Try.ntmps81
        go_wp2
        go_ret
        exact ⟨rfl, rfl⟩
      · have h4' : z ≤ (n : Int) := by omega
        clear h4
        rw [if_pos ⟨h2', h3', h4'⟩]
        go_enter Try.func81, Try.ntmps81
        go_wp2
        go_ret
        exact ⟨rfl, rfl⟩
theorem szO_drop (zs : List Int) (i : Nat) (hi : i < zs.length) : (if 1 < (zs.drop i).length ∧ 2 ≤ gz (zs.drop i) 1 ∧ gz (zs.drop i) 1 ≤ (zs.drop i).length then gz (zs.drop i) 1 else 0) = (szO zs i : Int) := by
  unfold szO
  rw [gz_drop, List.length_drop]
  by_cases h : i + 1 < zs.length ∧ 2 ≤ gz zs (i + 1) ∧ i + (gz zs (i + 1)).toNat ≤ zs.length
  · rw [if_pos h, if_pos (by omega)]
    omega
  · rw [if_neg h, if_neg (by omega)]
    rfl
theorem RdW.size {w W : World} {R b off cap : Nat} {ty : TypeId} {zs : List Int} {i : Nat} {cs : List Value} (h : RdW w W R ty (zs.drop i) b off cap cs) (hi : i < zs.length) :
    Calls Try.prog 81 #[.pointer (some ⟨R, 0, none⟩)] W fun e w' => e = .returned (.int .i64 (szO zs i : Int)) ∧ w' = W := by
  have k := size_any R b off (zs.drop i).length cap (gz (zs.drop i) 1) W h.row.len h.c0 (fun h2 => h.cell 1 (by omega)) (h.row.fit.gz 1)
  rw [szO_drop zs i hi] at k
  exact k
/-- How many bytes are left in a box. -/
def lenAt (R : Nat) (w : World) : Nat := match w.cell? ⟨R, 0, none⟩ with
  | some (.slice _ n _) => n
  | _ => 0
theorem RdW.lenAt {w W : World} {R b off cap : Nat} {ty : TypeId} {ys : List Int} {cs : List Value} (h : RdW w W R ty ys b off cap cs) : lenAt R W = ys.length := by
  unfold Go.Proofs.Ytodbgomoedhfaaa.lenAt
  rw [h.c0]
/-- What mssPlace tells. -/
def PlaceIs (vo : Value) (zs : List Int) (o : Option Nat) (e : Ending) : Prop :=
  match o with
  | none => e = .returned (.slice none 0 0)
  | some i => ∃ b off cap, vo = .slice (some ⟨b, off, none⟩) zs.length cap ∧ zs.length ≤ cap ∧ i + 2 ≤ zs.length ∧ 2 ≤ i ∧ e = .returned (.slice (some ⟨b, off + i, none⟩) 2 (cap - i))

set_option maxHeartbeats 4000000 in
set_option maxRecDepth 100000 in
theorem mssPlace_calls (c : List Value) (t : Seg) (vo vd : Value) (w : World) (hcc : c = [.int .u16 t.src, .int .u16 t.dst, .int .u32 t.seq, .int .u32 t.ack, .int .u8 t.fl, .int .u16 t.win, .int .u16 t.urg, vo, vd]) (hfl : 0 ≤ t.fl ∧ t.fl ≤ 255) (hr : RowC w vo t.opts) :
    Calls Try.prog 53 #[.agg c.toArray] w fun e w' => PlaceIs vo t.opts (mssO t) e ∧ Below w.heap.size w w' := by
  have b0 := blk_new w (.cells c.toArray 34)
  have hB0 := (Below.refl w.heap.size w).alloc (Nat.le_refl _) (.cells c.toArray 34)
  obtain ⟨W0, hW0⟩ : ∃ W0, w.alloc (.cells c.toArray 34) = W0 := ⟨_, rfl⟩
  rw [hW0] at b0 hB0
  have k4 := blk_cell (j := 4) b0 (by rw [hcc]; rfl)
  have k7 := blk_cell (j := 7) b0 (by rw [hcc]; rfl)
  have hand := and_syn t.fl hfl
  have hrow := hr.on hB0
  have hlen := hr.len
  have hfit := hr.fit
  unfold mssO
  generalize hfb : t.fl / 2 % 2 = fb at *
  have hfb01 : fb = 0 ∨ fb = 1 := by omega
  generalize t.fl = fl at *
  generalize t.opts = zs at *
  have HB0 : Hid _ := hB0
  rcases hfb01 with rfl | rfl
  · rw [if_pos rfl]
    obtain ⟨av, cv, rfl, _⟩ := hr.val
    clear b0 hB0 hrow hr hcc hfb
    go_enter Try.func53, Try.ntmps53
    go_wp2
    go_ret
    exact ⟨rfl, HB0.out⟩
  · rw [if_neg (by decide)]
    by_cases h0 : zs.length = 0
    · have hp : pl zs 0 = none := pl_end (by omega)
      rw [hp]
      obtain ⟨av, cv, rfl, _⟩ := hr.val
      rw [h0] at k7 hcc ⊢
      obtain ⟨W1, hst1, b1, hb1⟩ := box_new Try.sizeOf128 W0 [.slice none 0 0] rfl [.slice av 0 cv] rfl (by simp [Value.oneCell'])
      have HST : Hid _ := hst1
      have c1 := blk_cell (j := 0) b1 rfl
      have HX : Hid (Below w.heap.size w W1) := hB0.trans (hb1.mono hB0.size)
      clear b0 hB0 hrow hr hst1 b1 hb1 hp hcc hfb
      go_enter Try.func53, Try.ntmps53
      go_wp2_with ((with_reducible show wpList _ _ _ _ _ _); refine arm_store rfl (.tmp 3) (.tmp 12) 128 rfl rfl rfl HST.out ?_)
      try simp only [Act.put, List.setIfInBounds_toArray, List.set_cons_zero, List.set_cons_succ]
      go_loopw [4] (fun n wr => wr = W1) (fun _ _ => 0)
      case atStart => exact rfl
      case round =>
        obtain rfl := hrel
        go_wp2
        go_ret
        exact ⟨rfl, HX.out⟩
    · obtain ⟨b, off, cap, hS⟩ := hrow.rowS (by omega)
      have hv := hS.val
      subst hv
      obtain ⟨W1, hst1, b1, hb1⟩ := box_new Try.sizeOf128 W0 [.slice none 0 0] rfl [.slice (some ⟨b, off, none⟩) zs.length cap] rfl (by simp [Value.oneCell'])
      have HST : Hid _ := hst1
      have hR : RdW W0 W1 W0.heap.size 128 (zs.drop 0) b off (cap - 0) [] := ⟨b1, Nat.le_refl _, hb1, by simpa using hS⟩
      have HR : Hid _ := hR
      have hcap := hS.room
      have HPI : Hid (∀ i, i + 2 ≤ zs.length → 2 ≤ i → pl zs 0 = some i → PlaceIs (.slice (some ⟨b, off, none⟩) zs.length cap) zs (pl zs 0) (.returned (.slice (some ⟨b, off + i, none⟩) 2 (cap - i)))) := fun i h2 h3 h => by
        rw [h]
        exact ⟨b, off, cap, rfl, hcap, h2, h3, rfl⟩
      have HPN : Hid (pl zs 0 = none → PlaceIs (.slice (some ⟨b, off, none⟩) zs.length cap) zs (pl zs 0) (.returned (.slice none 0 0))) := fun h => by
        rw [h]
        exact rfl
      have HGZ : Hid (∀ k, 0 ≤ gz zs k ∧ gz zs k < 256) := fun k => hfit.gz k
      clear b0 hB0 hrow hr hst1 b1 hb1 hS hR hcc hfb hfit
      go_enter Try.func53, Try.ntmps53
      go_wp2_with ((with_reducible show wpList _ _ _ _ _ _); refine arm_store rfl (.tmp 3) (.tmp 12) 128 rfl rfl rfl HST.out ?_)
      try simp only [Act.put, List.setIfInBounds_toArray, List.set_cons_zero, List.set_cons_succ]
      go_loopw [4] (fun n wr => ∃ i off', i ≤ zs.length ∧ RdW W0 wr W0.heap.size 128 (zs.drop i) b off' (cap - i) [] ∧ (i < zs.length → off' = off + i) ∧ pl zs 0 = pl zs i) (fun _ wr => lenAt W0.heap.size wr)
      case atStart => exact ⟨0, off, by omega, HR.out, fun _ => by omega, rfl⟩
      case round =>
        obtain ⟨i, off', hi, hrd, hoff, hpl⟩ := hrel
        have HRD : Hid _ := hrd
        have c0 := hrd.c0
        have hll : (zs.drop i).length = zs.length - i := by simp
        have HLA : Hid (lenAt W0.heap.size wr = zs.length - i) := hrd.lenAt.trans hll
        rw [hll] at c0
        have HPL : Hid _ := hpl
        have HX : Hid (Below w.heap.size w wr) := HB0.out.trans (hrd.bel.mono HB0.out.size)
        by_cases hlt : i < zs.length
        · obtain rfl := hoff hlt
          have g0 := hrd.cell 0 (by rw [hll]; omega)
          rw [Nat.add_zero, gz_drop, Nat.add_zero] at g0
          have hlL : 0 < zs.length - i := by omega
          have hzr := HGZ.out i
          obtain ⟨z, hz⟩ : ∃ z, gz zs i = z := ⟨_, rfl⟩
          rw [hz] at g0 hzr
          have HZ : Hid _ := hz
          have HSZ : Hid _ := hrd.size hlt
          have HNEXT : Hid (∀ n w', 0 < n → i + n ≤ zs.length → pl zs i = pl zs (i + n) → RdW W0 w' W0.heap.size 128 ((zs.drop i).drop n) b (nxt (off + i) (cap - i) n) (cap - i - n) [] → (∃ i off', i ≤ zs.length ∧ RdW W0 w' W0.heap.size 128 (zs.drop i) b off' (cap - i) [] ∧ (i < zs.length → off' = off + i) ∧ pl zs 0 = pl zs i) ∧ lenAt W0.heap.size w' < lenAt W0.heap.size wr) := fun n w' hn0 hn hp hr' => by
            rw [List.drop_drop, Nat.sub_sub] at hr'
            refine ⟨⟨i + n, _, hn, hr', fun h => ?_, HPL.out.trans hp⟩, ?_⟩
            · unfold nxt
              rw [if_neg (by omega)]
              omega
            · rw [hr'.lenAt, HLA.out]
              simp
              omega
          clear hrd hll hz hpl hoff
          by_cases z0 : z = 0
          · subst z0
            have HP : Hid (PlaceIs (.slice (some ⟨b, off, none⟩) zs.length cap) zs (pl zs 0) (.returned (.slice none 0 0))) := HPN.out (HPL.out.trans (pl_zero hlt HZ.out))
            go_wp2
            go_ret
            exact ⟨HP.out, HX.out⟩
          · by_cases z1 : z = 1
            · subst z1
              have HRUN : Hid _ := HRD.out.run 1 (by simp; omega)
              have HP : Hid _ := pl_one hlt HZ.out
              go_wp2_with fail
              refine Calls.mono HRUN.out ?_
              rintro _ w2 ⟨rfl, hr2⟩
              have HN : Hid _ := HNEXT.out 1 w2 (by decide) (by omega) HP.out hr2
              clear hr2
              go_wp2
              exact HN.out
            · have q0 : (z == 0) = false := by simpa using z0
              have q1 : (z == 1) = false := by simpa using z1
              by_cases hs0 : szO zs i = 0
              · have HP : Hid (PlaceIs (.slice (some ⟨b, off, none⟩) zs.length cap) zs (pl zs 0) (.returned (.slice none 0 0))) := HPN.out (HPL.out.trans (pl_bad hlt (by rw [HZ.out]; exact z0) (by rw [HZ.out]; exact z1) hs0))
                rw [hs0] at HSZ
                clear z0 z1
                by_cases z2 : z = 2
                · subst z2
                  go_wp2_with fail
                  refine Calls.mono HSZ.out ?_
                  rintro _ w2 ⟨rfl, hw2⟩
                  obtain rfl : wr = w2 := hw2.symm
                  clear hw2
                  go_wp2_with fail
                  refine Calls.mono HSZ.out ?_
                  rintro _ w2 ⟨rfl, hw2⟩
                  obtain rfl : wr = w2 := hw2.symm
                  clear hw2
                  go_wp2
                  go_ret
                  exact ⟨HP.out, HX.out⟩
                · have q2 : (z == 2) = false := by simpa using z2
                  clear z2
                  go_wp2_with fail
                  refine Calls.mono HSZ.out ?_
                  rintro _ w2 ⟨rfl, hw2⟩
                  obtain rfl : wr = w2 := hw2.symm
                  clear hw2
                  go_wp2
                  go_ret
                  exact ⟨HP.out, HX.out⟩
              · obtain ⟨hs2, hsl⟩ := szO_le hs0
                by_cases z2 : z = 2
                · subst z2
                  by_cases h4 : szO zs i = 4
                  · rw [h4] at HSZ hsl
                    have HRUN : Hid _ := HRD.out.run 4 (by simp; omega)
                    have HP : Hid _ := HPI.out (i + 2) (by omega) (by omega) (HPL.out.trans (pl_mss hlt HZ.out h4))
                    have hne : (cap - i = 2) = False := eq_false (by omega)
                    have hc4 : 4 ≤ cap - i := by omega
                    have hof : off + i + 2 = off + (i + 2) := by omega
                    have hsb : cap - i - 2 = cap - (i + 2) := by omega
                    clear z0 z1 q0 q1 hs0 hs2
                    go_wp2_with fail
                    refine Calls.mono HSZ.out ?_
                    rintro _ w2 ⟨rfl, hw2⟩
                    obtain rfl : wr = w2 := hw2.symm
                    clear hw2
                    go_wp2_with fail
                    refine Calls.mono HRUN.out ?_
                    rintro _ w2 ⟨rfl, hr2⟩
                    have HX2 : Hid (Below w.heap.size w w2) := HB0.out.trans (hr2.bel.mono HB0.out.size)
                    clear hr2
                    go_wp2
                    go_ret
                    exact ⟨HP.out, HX2.out⟩
                  · have q4 : ((szO zs i : Int) == 4) = false := by simp; omega
                    have q5 : ((szO zs i : Int) == 0) = false := by simp; omega
                    have HP : Hid _ := pl_go hlt (by rw [HZ.out]; decide) (by rw [HZ.out]; decide) hs0 (fun k => h4 k.2)
                    have HRUN : Hid _ := HRD.out.run (szO zs i) (by simp; omega)
                    have HN0 : Hid _ := HNEXT.out (szO zs i)
                    generalize szO zs i = sn at *
                    clear z0 z1 q0 q1 hs0 h4
                    go_wp2_with fail
                    refine Calls.mono HSZ.out ?_
                    rintro _ w2 ⟨rfl, hw2⟩
                    obtain rfl : wr = w2 := hw2.symm
                    clear hw2
                    go_wp2_with fail
                    refine Calls.mono HSZ.out ?_
                    rintro _ w2 ⟨rfl, hw2⟩
                    obtain rfl : wr = w2 := hw2.symm
                    clear hw2
                    go_wp2_with fail
                    refine Calls.mono HRUN.out ?_
                    rintro _ w2 ⟨rfl, hr2⟩
                    have HN : Hid _ := HN0.out w2 (by omega) hsl HP.out hr2
                    clear hr2
                    go_wp2
                    exact HN.out
                · have q2 : (z == 2) = false := by simpa using z2
                  have q5 : ((szO zs i : Int) == 0) = false := by simp; omega
                  have HP : Hid _ := pl_go hlt (by rw [HZ.out]; exact z0) (by rw [HZ.out]; exact z1) hs0 (fun k => z2 (HZ.out ▸ k.1))
                  have HRUN : Hid _ := HRD.out.run (szO zs i) (by simp; omega)
                  have HN0 : Hid _ := HNEXT.out (szO zs i)
                  generalize szO zs i = sn at *
                  clear z0 z1 z2 hs0
                  go_wp2_with fail
                  refine Calls.mono HSZ.out ?_
                  rintro _ w2 ⟨rfl, hw2⟩
                  obtain rfl : wr = w2 := hw2.symm
                  clear hw2
                  go_wp2_with fail
                  refine Calls.mono HRUN.out ?_
                  rintro _ w2 ⟨rfl, hr2⟩
                  have HN : Hid _ := HN0.out w2 (by omega) hsl HP.out hr2
                  clear hr2
                  go_wp2
                  exact HN.out
        · obtain rfl : i = zs.length := by omega
          have HP : Hid (PlaceIs (.slice (some ⟨b, off, none⟩) zs.length cap) zs (pl zs 0) (.returned (.slice none 0 0))) := HPN.out (HPL.out.trans (pl_end rfl))
          have hll0 : zs.length - zs.length = 0 := by omega
          rw [hll0] at c0
          clear hrd hll hpl hoff
          go_wp2
          go_ret
          exact ⟨HP.out, HX.out⟩

end Go.Proofs.Ytodbgomoedhfaaa
