/-
  The document's parse of any bytes whose front is right.
-/
import Derived.Test.YtpgnnplpcalbbaaGreatKYp6
set_option linter.unusedVariables false
set_option linter.unusedSimpArgs false
namespace Go.Proofs.YtpgnnplpcalbbaaGreat.V6
open Go Go.RowKit
def zrF (cls lab hop : Int) : F6 := ⟨cls, lab, hop, 0, List.replicate 32 (.int .u8 0), rfl, fun v hv => by rw [(List.mem_replicate.1 hv).2]; rfl⟩
theorem zrF_eq (cls lab hop : Int) (zs : List Int) : zrF cls lab hop = finF cls lab hop 0 (adL zs 0) (adL_len zs 0) := by
  unfold zrF finF
  congr 1
theorem finF_congr {a b c d : Int} {L L' : List Int} (h : L.length = 32) (h' : L'.length = 32) (e : L = L') : finF a b c d L h = finF a b c d L' h' := by
  subst e
  rfl
def atB (W : World) (R : Nat) : Nat := match W.cell? ⟨R, 1, none⟩ with | some v => (intOf v).toNat | none => 0
theorem atB_of {W : World} {R : Nat} {b : Value} {at' : Nat} {bad pos : Int} (h : W.heap[R]? = some (DBox b at' bad pos)) : atB W R = at' := by
  unfold atB
  rw [blk_cell h (j := 1) rfl]
  simp [intOf]
section
variable {w : World} {v : Value} {zs : List Int}
set_option maxHeartbeats 8000000 in
set_option maxRecDepth 100000 in
theorem parse_good (whole : Bool) (h : BS (fun b => b < w.heap.size) w v zs) (hl : 40 ≤ zs.length) (hn : gz zs 0 / 16 = 6) (hb : ¬ badN whole zs) (hA : ((zs.drop 8).take 32).length = 32) (X : Ending → World → Prop)
    (xb : ∀ (at' : Nat) (er : Int), endR (rdH 9 (zs.drop 40) 40 (gz zs 6) []) = .bad at' er → ∀ w', Below w.heap.size w w' → X (.returned (.tuple #[.agg zeroV.toArray, .int .i64 at', .int .i64 er])) w')
    (xo : ∀ hs g proto body, endR (rdH 9 (zs.drop 40) 40 (gz zs 6) []) = .ok hs g proto body → ∀ w' vh vb, D6 (fun b => w.heap.size ≤ b) w' (finF (clsN zs) (labN zs) (gz zs 7) proto ((zs.drop 8).take 32) hA) vh vb hs body → Below w.heap.size w w' → X (.returned (.tuple #[VV (finF (clsN zs) (labN zs) (gz zs 7) proto ((zs.drop 8).take 32) hA) g vh vb, .int .i64 0, .int .i64 0])) w') :
    Calls Tryz.prog 186 #[v, .bool whole] w X := by
  have HBZ : Hid (∀ W : World, (Instr.build 36 ([] : List (Nat × Value)).toArray).run Tryz.prog W = .ok (.agg zeroV.toArray) W) := build_zero
  obtain ⟨W0, hW0⟩ : ∃ W0, W0 = w.alloc (.cells zeroV.toArray 36) := ⟨_, rfl⟩
  have hB0 : Below w.heap.size w W0 := by rw [hW0]; exact (Below.refl w.heap.size w).alloc (Nat.le_refl _) _
  have hz0 : W0.heap[w.heap.size]? = some (.cells zeroV.toArray 36) := by rw [hW0]; exact blk_new w _
  have hsz0 : W0.heap.size = w.heap.size + 1 := by rw [hW0]; simp
  obtain ⟨W5, hW5⟩ : ∃ W5, W5 = W0.drew := ⟨_, rfl⟩
  have hb5 : Below W0.heap.size W0 W5 := by rw [hW5]; exact (Below.refl W0.heap.size W0).drew
  have hsz5 : W5.heap.size = w.heap.size + 1 := by rw [hW5]; exact hsz0
  have hb05 := hB0.trans (hb5.mono hB0.size)
  obtain ⟨zb, zo, n', zc, ev, -, hcell⟩ := h.first (by omega)
  have hlt0 : zb < w.heap.size := by
    rcases h.loc with hl | ⟨b', o', n', k', e, hb⟩
    · omega
    · rw [ev] at e; injection e with e1; injection e1 with e1; injection e1 with e1; rw [e1]; exact hb
  have hfit := h.row.fit
  have hzl := h.row.len
  have hzc : zs.length ≤ zc := by
    obtain ⟨_, _, a', k', e, hk, _⟩ := h.row
    rw [ev] at e
    injection e with _ _ e3
    rw [e3]; exact hk
  subst ev
  have HCB : Hid (∀ W', Below w.heap.size w W' → ∀ j, j < zs.length → W'.cell? ⟨zb, zo + j, none⟩ = some (.int .u8 (gz zs j))) := fun W' hb j hj => (hb.cell (p := ⟨zb, zo + j, none⟩) hlt0).trans (hcell j hj)
  have HBS : Hid (BS (fun b => b < w.heap.size) w (.slice (some ⟨zb, zo, none⟩) zs.length zc) zs) := h
  have q : decide ((zs.length : Int) < 40) = false := by simp; omega
  have q' : decide (zs.length < 40) = false := by simp; omega
  have f0 := gz_fit hfit 0
  have f1 := gz_fit hfit 1
  have f2 := gz_fit hfit 2
  have f3 := gz_fit hfit 3
  have f4 := gz_fit hfit 4
  have f5 := gz_fit hfit 5
  have f7 := gz_fit hfit 7
  have c0 := HCB.out W0 hB0 0 (by omega)
  rw [Nat.add_zero] at c0
  have c4 := HCB.out W0 hB0 4 (by omega)
  have c5 := HCB.out W0 hB0 5 (by omega)
  have d4 := HCB.out W5 hb05 4 (by omega)
  have d5 := HCB.out W5 hb05 5 (by omega)
  have qv : (gz zs 0 / 16 != 6) = false := by simp [hn]
  have qb1 : decide (gz zs 4 * 256 + gz zs 5 < (zs.length : Int) - 40) = false := by
    unfold badN lenN at hb
    simp only [not_or] at hb
    simp; omega
  have qb2 : (whole && decide ((zs.length : Int) - 40 < gz zs 4 * 256 + gz zs 5)) = false := by
    unfold badN lenN at hb
    cases whole
    · rfl
    · simp at hb ⊢
      omega
  have hup : ∀ x : Hi W5, Below w.heap.size w x.W := fun x => hb05.trans (x.below.mono hb05.size)
  have k0 : ∀ x : Hi W5, x.W.cell? ⟨zb, zo, none⟩ = some (.int .u8 (gz zs 0)) := fun x => by have := HCB.out _ (hup x) 0 (by omega); rwa [Nat.add_zero] at this
  have k1 : ∀ x : Hi W5, x.W.cell? ⟨zb, zo + 1, none⟩ = some (.int .u8 (gz zs 1)) := fun x => HCB.out _ (hup x) 1 (by omega)
  have k2 : ∀ x : Hi W5, x.W.cell? ⟨zb, zo + 2, none⟩ = some (.int .u8 (gz zs 2)) := fun x => HCB.out _ (hup x) 2 (by omega)
  have k3 : ∀ x : Hi W5, x.W.cell? ⟨zb, zo + 3, none⟩ = some (.int .u8 (gz zs 3)) := fun x => HCB.out _ (hup x) 3 (by omega)
  have k7 : ∀ x : Hi W5, x.W.cell? ⟨zb, zo + 7, none⟩ = some (.int .u8 (gz zs 7)) := fun x => HCB.out _ (hup x) 7 (by omega)
  obtain ⟨w3, hst3, hv3, hb3, hs3⟩ := vb_new W5.drew (zrF (clsN zs) (labN zs) (gz zs 7)) zG (vh := .slice none 0 0) (vb := .slice none 0 0) rfl rfl
  have hb3' : Below W5.heap.size W5 w3 := (Below.refl W5.heap.size W5).drew.trans hb3
  rw [zrF_eq _ _ _ zs] at hv3
  have HST3 : Hid _ := hst3
  have HV3 : Hid (w3.heap[W5.heap.size]? = some (BV (finF (clsN zs) (labN zs) (gz zs 7) 0 (adL zs 0) (adL_len zs 0)) zG (.slice none 0 0) (.slice none 0 0))) := hv3
  have HB3 : Hid (Below W5.heap.size W5 w3) := hb3'
  have HBW3 : Hid (Below w.heap.size w w3) := hb05.trans (hb3'.mono hb05.size)
  have HZ3 : Hid (w3.heap[w.heap.size]? = some (.cells zeroV.toArray 36)) := blk_on (blk_on hz0 hb5) hb3'
  have HS3 : Hid (w3.heap.size = w.heap.size + 2) := by
    have h1 : w3.heap.size = W5.drew.heap.size + 1 := hs3
    have h2 : W5.drew.heap.size = W5.heap.size := rfl
    have h3 : w3.heap.size = w.heap.size + 2 := by omega
    exact h3
  have HSZ5 : Hid (W5.heap.size = w.heap.size + 1) := hsz5
  obtain ⟨FF, hFF⟩ : ∃ FF : Int → F6, FF = fun p => finF (clsN zs) (labN zs) (gz zs 7) p ((zs.drop 8).take 32) hA := ⟨_, rfl⟩
  have HFF : Hid (FF = fun p => finF (clsN zs) (labN zs) (gz zs 7) p ((zs.drop 8).take 32) hA) := hFF
  have HPF : Hid (proF FF) := by
    have : proF FF := by rw [hFF]; exact fun p x => rfl
    exact this
  obtain ⟨E0, hE0⟩ : ∃ E0, endR (rdH 9 (zs.drop 40) 40 (gz zs 6) []) = E0 := ⟨_, rfl⟩
  have HE0 : Hid (endR (rdH 9 (zs.drop 40) 40 (gz zs 6) []) = E0) := hE0
  rw [hE0] at xb xo
  have HXB : Hid _ := xb
  have HXO : Hid (∀ hs g proto body, E0 = .ok hs g proto body → ∀ w' vh vb, D6 (fun b => w.heap.size ≤ b) w' (FF proto) vh vb hs body → Below w.heap.size w w' → X (.returned (.tuple #[VV (FF proto) g vh vb, .int .i64 0, .int .i64 0])) w') := by rw [hFF]; exact xo
  have HLABF : Hid (∀ p, 0 ≤ (FF p).lab ∧ (FF p).lab ≤ 4294967295) := fun p => by
    rw [hFF]
    show 0 ≤ labN zs ∧ labN zs ≤ 4294967295
    unfold labN
    omega
  have HBIG : Hid (zs.length ≤ 1000000000) := by
    have : zs.length ≤ 1000000000 := by unfold badN lenN at hb; omega
    exact this
  have HLAB : Hid (0 ≤ labN zs ∧ labN zs ≤ 4294967295) := by
    have : 0 ≤ labN zs ∧ labN zs ≤ 4294967295 := by unfold labN; omega
    exact this
  have HFIT : Hid (Fit zs) := hfit
  have hW := hW0.symm
  have hW5' := hW5.symm
  unfold zeroV at hW
  clear hst3 hv3 hb3 hb3' hs3 hb05 hb5 hsz5 hsz0 hz0 hB0 hW0 hW5 hn hb hfit hcell xb xo h hup hFF hE0
  obtain ⟨zl, hzle⟩ : ∃ zl, zs.length = zl := ⟨_, rfl⟩
  have HZL : Hid (zs.length = zl) := hzle
  rw [hzle] at q q' hzl hzc qb1 qb2 hl ⊢
  clear hzle
  refine Calls.mono (R := fun e w' => Hid (X e w')) ?_ (fun e w' hx => hx.out)
  cases whole
  all_goals
    try simp only [Bool.true_and] at qb2
    go_enter Tryz.func186, Tryz.ntmps186
    go_wp2_with fail
    go_region
    clear c0 c4 c5 d4 d5
    go_wp2_with fail
    refine wp_region_box 31 (fun w' => ∃ x : Hi W5, w' = x.W) (by kernel_rfl) (by kernel_rfl) (fun _ _ d _ _ h => by cases d <;> exact h) ⟨⟨W5.drew, (Below.refl _ W5).drew⟩, rfl⟩ (by rfl) (by kernel_rfl) (by kernel_rfl) (by kernel_rfl) (by kernel_rfl) (by kernel_rfl) rfl rfl rfl rfl ?_
    simp only [List.take_succ_cons, List.take_zero]
    repeat (first | go_big_quiet_skip | (go_big_quiet_want; go_big_quiet_op; go_big_quiet_on))
    refine wpQuiet_nil ?_
    refine alloc6_wp rfl ⟨⟨⟨W5.drew.alloc (.cells zeroV.toArray 36), (Below.refl W5.heap.size W5).drew.alloc (Nat.le_refl _) _⟩, rfl⟩, ?_⟩
    refine store_wp (.tmp 8) (.tmp 80) 36 rfl rfl rfl HST3.out ⟨⟨⟨w3, HB3.out⟩, rfl⟩, ?_⟩
    clear HST3 k0 k1 k2 k3 k7 hW hW5' HB3 q q' qv qb1 qb2
    simp only [Act.put, List.setIfInBounds_toArray, List.set_cons_zero, List.set_cons_succ]
    rw [show W5.drew.heap.size = W5.heap.size from rfl]
    have hVq : W5.heap.size = w.heap.size + 1 := HSZ5.out
    obtain ⟨V, hV⟩ : ∃ V, W5.heap.size = V := ⟨_, rfl⟩
    rw [hV] at HV3 HSZ5 hVq ⊢
    have HVQ : Hid (V = w.heap.size + 1) := hVq
    clear hV hVq
    go_wp2_with fail
    go_loopw [9] (fun i wr => ∃ k : Nat, k ≤ 16 ∧ i = .int .i64 k ∧ Hid (wr.heap[V]? = some (BV (finF (clsN zs) (labN zs) (gz zs 7) 0 (adL zs k) (adL_len zs k)) zG (.slice none 0 0) (.slice none 0 0))) ∧ Hid (Only V w3 wr)) (fun i _ => 16 - (intOf i).toNat)
    case atStart => exact ⟨0, by omega, rfl, HV3.out, Only.refl V w3⟩
    case round =>
      obtain ⟨k, hk, rfl, hvr, hor⟩ := hrel
      clear HV3
      by_cases hlt : k < 16
      · have hzr : wr.heap[zb]? = w3.heap[zb]? := hor.out.other zb (by have := HVQ.out; omega)
        have p1 : wr.cell? ⟨zb, zo + (8 + k), none⟩ = some (.int .u8 (gz zs (8 + k))) := by
          rw [← HCB.out w3 HBW3.out (8 + k) (by rw [HZL.out]; omega)]
          simp only [World.cell?, hzr]
        have p2 : wr.cell? ⟨zb, zo + (24 + k), none⟩ = some (.int .u8 (gz zs (24 + k))) := by
          rw [← HCB.out w3 HBW3.out (24 + k) (by rw [HZL.out]; omega)]
          simp only [World.cell?, hzr]
        obtain ⟨x1, a1⟩ := ad_cell hvr.out (j := k) (by omega)
        have a2 := blk_open hvr.out (3 + k)
        obtain ⟨x2, b1⟩ := ad_cell hvr.out (j := 16 + k) (by omega)
        rw [show 3 + (16 + k) = 19 + k by omega] at b1
        have b2 := blk_open hvr.out (19 + k)
        have hv' := ad_step hvr.out hlt
        have HVN : Hid _ := hv'
        have HON : Hid (Only V w3 ((wr.setCell ⟨V, 3 + k, none⟩ (.int .u8 (gz zs (8 + k)))).setCell ⟨V, 19 + k, none⟩ (.int .u8 (gz zs (24 + k))))) := (hor.out.set (3 + k) _).set (19 + k) _
        clear hvr hor hzr hv'
        generalize gz zs (8 + k) = y1 at *
        generalize gz zs (24 + k) = y2 at *
        go_wp2_with fail
        go_region
        go_wp2_with fail
        exact ⟨⟨k + 1, by omega, by simp, HVN.out, HON.out.drew⟩, by simp [intOf]; omega⟩
      · obtain rfl : k = 16 := by omega
        obtain ⟨w4, rfl⟩ : ∃ w4, w4 = wr := ⟨_, rfl⟩
        have hw3b : Below w.heap.size w w4 := HBW3.out.trans (hor.out.below (by have := HVQ.out; omega))
        have hszr : w4.heap.size = w.heap.size + 2 := by rw [hor.out.size]; exact HS3.out
        have hvr2 : w4.heap[V]? = some (BV (FF 0) zG (.slice none 0 0) (.slice none 0 0)) := by
          have := hvr.out
          rw [finF_congr (adL_len zs 16) hA (adL_all (by rw [HZL.out]; exact hl))] at this
          rw [HFF.out]
          exact this
        have hzr : w4.heap[w.heap.size]? = some (.cells zeroV.toArray 36) := (hor.out.other _ (by have := HVQ.out; omega)).trans HZ3.out
        obtain ⟨W6, hW6⟩ : ∃ W6, W6 = w4.alloc (.cells #[.slice (some ⟨zb, zo, none⟩) zl zc, .int .i64 40, .int .i64 0, .int .i64 0] 256) := ⟨_, rfl⟩
        obtain ⟨R, hR⟩ : ∃ R, w4.heap.size = R := ⟨_, rfl⟩
        have hb6 : Below w4.heap.size w4 W6 := by rw [hW6]; exact (Below.refl w4.heap.size w4).alloc (Nat.le_refl _) _
        have hr6 : W6.heap[R]? = some (DBox (.slice (some ⟨zb, zo, none⟩) zl zc) (40 : Nat) 0 0) := by rw [hW6, ← hR]; exact blk_new w4 _
        have c6 := HCB.out W6 (hw3b.trans (hb6.mono hw3b.size)) 6 (by rw [HZL.out]; omega)
        have hRV : R ≠ V := by have := HVQ.out; omega
        have HRQ : Hid (R = w.heap.size + 2) := hR.symm.trans hszr
        have HPI : Hid (PI w4 R V zb zo zl zc (R + 1) FF zs E0 (gz zs 6) 40 false W6) := by
          have : PI w4 R V zb zo zl zc (R + 1) FF zs E0 (gz zs 6) 40 false W6 := by
            refine ⟨hl, hr6, Sep.of_below hb6, ?_⟩
            simp only [Bool.false_eq_true, if_false]
            exact ⟨9, [], [], .slice none 0 0, blk_on hvr2 hb6, HRow.nil _ _, rfl, by simp, HE0.out, gz_fit HFIT.out 6⟩
          exact this
        have HWR : Hid (Below w.heap.size w w4) := hw3b
        have HZR : Hid (w4.heap[w.heap.size]? = some (.cells zeroV.toArray 36)) := hzr
        have HZLT : Hid (zb < w.heap.size) := hlt0
        have hW6' := hW6.symm
        clear hvr hor hvr2 hzr hb6 hr6 hw3b hszr HBW3 HZ3 HS3 HSZ5 hW6 hlt0
        generalize gz zs 6 = K6 at *
        go_wp2_with fail
        clear c6 hW6'
        clear hR
        go_loopw [11] (fun kd wr => ∃ kind at' fr, kd = .int .u8 kind ∧ Hid (PI w4 R V zb zo zl zc (R + 1) FF zs E0 kind at' fr wr)) (fun _ wr => zl - atB wr R)
        case atStart => exact ⟨K6, 40, false, rfl, HPI.out⟩
        case round =>
          obtain ⟨kind, at', fr, rfl, hpi⟩ := hrel
          clear HPI
          have hbwl : Below w.heap.size w wr := HWR.out.trans (hpi.out.bel.below HWR.out.size (fun b hb e => by have := HRQ.out; have := HVQ.out; omega))
          have HBWL : Hid (Below w.heap.size w wr) := hbwl
          have HZWL : Hid (wr.heap[w.heap.size]? = some (.cells zeroV.toArray 36)) := hpi.out.bel.blk HZR.out (by have := HRQ.out; have := HVQ.out; omega)
          have HRWL : Hid (RowS wr (.slice (some ⟨zb, zo, none⟩) zl zc) zs zb zo zc) := ⟨by rw [HZL.out], by rw [HZL.out]; exact hzc, Nat.lt_of_lt_of_le HZLT.out hbwl.size, HCB.out wr hbwl, HFIT.out, by rw [HZL.out]; exact hzl⟩
          have HSZL : Hid (R + 1 ≤ wr.heap.size) := (Array.getElem?_eq_some_iff.1 hpi.out.rb).1
          clear hbwl
          cases fr with
          | true =>
            have hst := hpi.out.st
            simp only [if_true] at hst
            obtain ⟨hs, ds, vh, g, p, hV, hgf, hE, hrow, h8⟩ := hst
            have k36 := vb36 hV
            rw [hgf] at k36
            have HRB : Hid (wr.heap[R]? = some (DBox (.slice (some ⟨zb, zo, none⟩) zl zc) at' 0 0)) := hpi.out.rb
            have HAT : Hid (at' ≤ zl) := hpi.out.le
            have HV : Hid (wr.heap[V]? = some (BV (FF p) g vh (.slice none 0 0))) := hV
            have HROW : Hid (HRow (R + 1) wr vh hs ds) := hrow
            have HH8 : Hid (hs.length ≤ 8) := h8
            have HE : Hid (E0 = .ok hs g p (zs.drop at')) := hE
            have HGF : Hid (g.fr = true) := hgf
            clear hpi hV hrow hE h8 hgf
            have HBW : Hid (Below w.heap.size w wr) := HBWL.out
            have HZW : Hid (wr.heap[w.heap.size]? = some (.cells zeroV.toArray 36)) := HZWL.out
            have HRW : Hid (HRow (R + 1) wr vh hs ds) := HROW.out
            have HRB7 : Hid (wr.heap[R]? = some (DBox (.slice (some ⟨zb, zo, none⟩) zl zc) at' 0 0)) := HRB.out
            obtain ⟨u, hu, hbu⟩ := cut_rest (HBS.out.on HBW.out) (by rw [HZL.out]; omega) at' (by rw [HZL.out]; exact HAT.out)
            rw [HZL.out] at hu
            obtain ⟨A1, hA1⟩ : ∃ A1, A1 = wr.alloc (.cells #[] 5) := ⟨_, rfl⟩
            have hb1 : Below wr.heap.size wr A1 := by rw [hA1]; exact (Below.refl wr.heap.size wr).alloc (Nat.le_refl _) _
            have hs1 : A1.heap.size = wr.heap.size + 1 := by rw [hA1]; simp
            obtain ⟨b2, c2, W8, hrun, hb8, hc8⟩ := copy_run (B := wr.heap.size) hbu.bytes hb1 (Nat.le_refl _) (by omega) 25
            have hbb := hc8.bs hbu.row.fit hbu.row.len
            have hB8 : Below wr.heap.size wr W8 := hb1.trans (hb8.mono hb1.size)
            obtain ⟨bn, hbn⟩ : ∃ bn, (zs.drop at').length = bn := ⟨_, rfl⟩
            rw [hbn] at hrun hbb
            have hv8 := blk_on HV.out hB8
            have m1 : wr.cell? ⟨R, 1, none⟩ = some (.int .i64 at') := blk_cell HRB7.out (j := 1) rfl
            have m1a : A1.cell? ⟨R, 1, none⟩ = some (.int .i64 at') := blk_cell (blk_on HRB7.out hb1) (j := 1) rfl
            obtain ⟨W9, hst9, hv9, ho9⟩ : ∃ W9, (Instr.storeAt 25 (.pointer (some ⟨V, 41, none⟩)) (.slice (some ⟨b2, 0, none⟩) bn c2)).run Tryz.prog W8 = .ok () W9 ∧ W9.heap[V]? = some (BV (FF p) g vh (.slice (some ⟨b2, 0, none⟩) bn c2)) ∧ Only V W8 W9 := ⟨_, st_row hv8 (show 41 < _ by rw [vC_len]; omega) ⟨_, _, _, rfl⟩, vs41 hv8 _, (Only.refl _ W8).set 41 _⟩
            have HL9 : Hid _ := vb_load hv9
            have hrow9 := (HRW.out.on hB8).sep (Sep.of_only (O := fun b => b = V) ho9 rfl) (fun b hb e => by have := HRQ.out; have := HVQ.out; omega)
            have hVlt : V < wr.heap.size := (Array.getElem?_eq_some_iff.1 HV.out).1
            have hbb9 := hbb.sep (Sep.of_only (O := fun b => b = V) ho9 rfl) (fun b hb e => by omega)
            have hz9 : W9.heap[w.heap.size]? = some (.cells zeroV.toArray 36) := (ho9.other _ (by have := HVQ.out; omega)).trans (blk_on HZW.out hB8)
            obtain ⟨wf, hstf, hbxf, honf⟩ := box_store Tryz.sizeOf36 hz9 (by rfl) (vC (FF p) g vh (.slice (some ⟨b2, 0, none⟩) bn c2)) vC_len (vC_one (hrow9.hs (by have := HH8.out; omega)).one rfl)
            have HVL : Hid _ := vb_var hbxf
            have hrowf := hrow9.sep (Sep.of_only (O := fun b => b = w.heap.size) honf rfl) (fun b hb e => by have := HRQ.out; omega)
            have hbbf := hbb9.sep (Sep.of_only (O := fun b => b = w.heap.size) honf rfl) (fun b hb e => by have := HVQ.out; omega)
            have hbf : Below w.heap.size w wf := ((HBW.out.trans (hB8.mono HBW.out.size)).trans (ho9.below (by have := HVQ.out; omega))).trans (honf.below (Nat.le_refl _))
            have HX : Hid (X (.returned (.tuple #[VV (FF p) g vh (.slice (some ⟨b2, 0, none⟩) bn c2), .int .i64 0, .int .i64 0])) wf) := HXO.out hs g p (zs.drop at') HE.out wf vh _ ⟨(hrowf.hs (by have := HH8.out; omega)).mono (fun b _ hb => by have := HRQ.out; omega), hbbf.mono (fun b _ hb => by have := HBW.out.size; omega), HLABF.out p⟩ hbf
            have HU : Hid _ := hu
            have HRUN : Hid _ := hrun
            have HST9 : Hid _ := hst9
            have HSTF : Hid _ := hstf
            have hA1' := hA1.symm
            clear hu hbu hb1 hs1 hrun hb8 hc8 hbb hB8 hv8 hst9 hv9 ho9 hrow9 hVlt hbb9 hz9 hstf hbxf honf hrowf hbbf hbf hA1 hbn HBW HZW HRW HRB7 HV
            go_wp2_with first
              | ((with_reducible show wpList _ _ _ ({ dst := _, op := Op.slice 25 (Operand.tmp 142) _ _ _, type := _, pos := _, after := _, guard := _ } :: _) _ _); refine arm_slice rfl 25 (.tmp 142) (some (.tmp 146)) none rfl rfl rfl rfl (HU.out _) ?_)
              | (at_builtin; refine wpList_append_run rfl _ _ _ _ rfl rfl rfl HRUN.out ?_)
              | ((with_reducible show wpList _ _ _ ({ dst := _, op := Op.store 25 (Operand.tmp 149) _, type := _, pos := _, after := _, guard := _ } :: _) _ _); refine armS (.tmp 149) (.tmp 148) 25 rfl rfl rfl rfl HST9.out ?_; try simp only [Act.put])
              | ((with_reducible show wpList _ _ _ ({ dst := _, op := Op.load 36 (Operand.tmp 8), type := _, pos := _, after := _, guard := _ } :: _) _ _); refine armL (.tmp 8) 36 rfl rfl rfl HL9.out ?_)
              | ((with_reducible show wpList _ _ _ ({ dst := _, op := Op.store 36 (Operand.tmp 4) _, type := _, pos := _, after := _, guard := _ } :: _) _ _); refine armS (.tmp 4) (.tmp 150) 36 rfl rfl rfl rfl HSTF.out ?_; try simp only [Act.put])
            exact bodyPost_ret (res3d (a := 4) (b := 5) (c := 6) rfl rfl rfl rfl HVL.out) rfl HX
          | false =>
            have hst := hpi.out.st
            simp only [Bool.false_eq_true, if_false] at hst
            obtain ⟨n, hs, ds, vh, hV, hrow, hn9, h8, hE, hkf⟩ := hst
            have k36 : wr.cell? ⟨V, 36, none⟩ = some (.bool false) := vb36 hV
            have HATB : Hid (atB wr R = at') := atB_of hpi.out.rb
            go_wp2_with fail
            refine Calls.mono (extra_calls kind _) ?_
            rintro e wi ⟨rfl, hwi⟩
            obtain rfl := hwi.symm
            clear hwi
            cases hk : isH kind with
            | true =>
              have HHD : Hid _ := head_all HPF.out hpi.out (.inl hk) HRWL.out (by rw [← HZL.out]; exact HBIG.out) HZL.out hRV (by have := HZLT.out; have := HRQ.out; omega) (by have := HZLT.out; have := HVQ.out; omega) (by have := HZLT.out; have := HRQ.out; omega) (by omega) (by have := HRQ.out; have := HVQ.out; omega) HSZL.out
              clear hpi hV hrow hE hkf k36 hn9 h8
              go_wp2_with fail
              refine Calls.mono HHD.out ?_
              rintro e w7 (⟨er, rfl, hr7, hE7, hs7⟩ | ⟨kind', at2, fr', rfl, hpi', hlt⟩)
              · have hbw7 : Below w.heap.size w w7 := HWR.out.trans (hs7.below HWR.out.size (fun b hb e => by have := HRQ.out; have := HVQ.out; omega))
                have hz7 : w7.heap[w.heap.size]? = some (.cells zeroV.toArray 36) := hs7.blk HZR.out (by have := HRQ.out; have := HVQ.out; omega)
                obtain ⟨w8, hst8, hb8, ho8⟩ := box_store Tryz.sizeOf36 (w := w7.drew) hz7 (by rfl) (vC zF zG (.slice none 0 0) (.slice none 0 0)) vC_len (vC_one rfl rfl)
                rw [show (.agg (vC zF zG (.slice none 0 0) (.slice none 0 0)).toArray : Value) = .agg zeroV.toArray from rfl] at hst8
                have hvl := vb_var hb8
                rw [show VV zF zG (.slice none 0 0) (.slice none 0 0) = .agg zeroV.toArray from rfl] at hvl
                have HVL : Hid _ := hvl
                have HX : Hid (X (.returned (.tuple #[.agg zeroV.toArray, .int .i64 at', .int .i64 er])) w8) := HXB.out at' er hE7 w8 (hbw7.drew.trans (ho8.below (Nat.le_refl _)))
                have HST8 : Hid _ := hst8
                have HR7 : Hid (w7.heap[R]? = some (DBox (.slice (some ⟨zb, zo, none⟩) zl zc) at' er at')) := hr7
                have HR8 : Hid (w8.heap[R]? = some (DBox (.slice (some ⟨zb, zo, none⟩) zl zc) at' er at')) := (ho8.other R (by have := HRQ.out; omega)).trans hr7
                clear hr7 hE7 hs7 hbw7 hz7 hst8 hb8 ho8 hvl HHD HATB
                go_wp2_with fail
                refine region_mid (fun a0 a' w' => a' = (((((((((((a0.put (some 126) (.agg zeroV.toArray)).put (some 127) (.pointer (some ⟨R, 0, none⟩))).put (some 128) (.pointer (some ⟨R, 0, none⟩))).put (some 129) (.pointer (some ⟨R, 3, none⟩))).put (some 130) (.int .i64 at')).put (some 131) (.pointer (some ⟨R, 0, none⟩))).put (some 132) (.pointer (some ⟨R, 0, none⟩))).put (some 133) (.pointer (some ⟨R, 2, none⟩))).put (some 134) (.int .i64 er)).put (some 5) (.int .i64 at')).put (some 6) (.int .i64 er)) ∧ w' = w8) ?_ ?_
                · skip
                  refine wp_region_held (S := fun X => X.heap[R]? = some (DBox (.slice (some ⟨zb, zo, none⟩) zl zc) at' er at')) (by kernel_rfl) ?_
                  show wpAnyH _ _ _ _ _ 12 (Array.replicate 12 false) _ _
                  have hs0 : w7.drew.heap[R]? = some (DBox (.slice (some ⟨zb, zo, none⟩) zl zc) at' er at') := HR7.out
                  refine take_one (i := 0) (d := some 126) (v := .agg zeroV.toArray) rfl rfl rfl (by kernel_rfl) (by kernel_rfl) (by kernel_rfl) (fun _ _ _ _ _ h => h.elim) (fun W hS => by kernel_rfl) hs0 ?_
                  simp only [Act.put, List.setIfInBounds_toArray, List.set_cons_zero, List.set_cons_succ]
                  refine take_one (i := 1) (d := some 127) (v := .pointer (some ⟨R, 0, none⟩)) rfl rfl rfl (by kernel_rfl) (by kernel_rfl) (by kernel_rfl) (fun _ _ _ _ _ h => h.elim) (fun W hS => by kernel_rfl) hs0 ?_
                  simp only [Act.put, List.setIfInBounds_toArray, List.set_cons_zero, List.set_cons_succ]
                  refine take_one (i := 2) (d := some 128) (v := .pointer (some ⟨R, 0, none⟩)) rfl rfl rfl (by kernel_rfl) (by kernel_rfl) (by kernel_rfl) (fun _ _ _ _ _ h => h.elim) (fun W hS => by kernel_rfl) hs0 ?_
                  simp only [Act.put, List.setIfInBounds_toArray, List.set_cons_zero, List.set_cons_succ]
                  refine take_one (i := 3) (d := some 129) (v := .pointer (some ⟨R, 3, none⟩)) rfl rfl rfl (by kernel_rfl) (by kernel_rfl) (by kernel_rfl) (fun _ _ _ _ _ h => h.elim) (fun W hS => by kernel_rfl) hs0 ?_
                  simp only [Act.put, List.setIfInBounds_toArray, List.set_cons_zero, List.set_cons_succ]
                  refine take_one (i := 4) (d := some 130) (v := .int .i64 at') rfl rfl rfl (by kernel_rfl) (by kernel_rfl) (by kernel_rfl) (fun _ _ _ _ _ h => h.elim) (fun W hS => ex_loadA (.tmp 129) 3 rfl rfl (ld_int (blk_cell hS (j := 3) rfl))) hs0 ?_
                  simp only [Act.put, List.setIfInBounds_toArray, List.set_cons_zero, List.set_cons_succ]
                  refine take_one (i := 5) (d := some 131) (v := .pointer (some ⟨R, 0, none⟩)) rfl rfl rfl (by kernel_rfl) (by kernel_rfl) (by kernel_rfl) (fun _ _ _ _ _ h => h.elim) (fun W hS => by kernel_rfl) hs0 ?_
                  simp only [Act.put, List.setIfInBounds_toArray, List.set_cons_zero, List.set_cons_succ]
                  refine take_one (i := 6) (d := some 132) (v := .pointer (some ⟨R, 0, none⟩)) rfl rfl rfl (by kernel_rfl) (by kernel_rfl) (by kernel_rfl) (fun _ _ _ _ _ h => h.elim) (fun W hS => by kernel_rfl) hs0 ?_
                  simp only [Act.put, List.setIfInBounds_toArray, List.set_cons_zero, List.set_cons_succ]
                  refine take_one (i := 7) (d := some 133) (v := .pointer (some ⟨R, 2, none⟩)) rfl rfl rfl (by kernel_rfl) (by kernel_rfl) (by kernel_rfl) (fun _ _ _ _ _ h => h.elim) (fun W hS => by kernel_rfl) hs0 ?_
                  simp only [Act.put, List.setIfInBounds_toArray, List.set_cons_zero, List.set_cons_succ]
                  refine take_one (i := 8) (d := some 134) (v := .int .i64 er) rfl rfl rfl (by kernel_rfl) (by kernel_rfl) (by kernel_rfl) (fun _ _ _ _ _ h => h.elim) (fun W hS => ex_loadA (.tmp 133) 3 rfl rfl (ld_int (blk_cell hS (j := 2) rfl))) hs0 ?_
                  simp only [Act.put, List.setIfInBounds_toArray, List.set_cons_zero, List.set_cons_succ]
                  refine all_one (i := 9) (by kernel_rfl) rfl rfl ?_
                  refine wp_storeA (.tmp 4) (.tmp 126) 36 rfl rfl rfl rfl HST8.out ⟨HR8.out, ?_⟩
                  have hs0 := HR8.out
                  try simp only [Act.put, List.setIfInBounds_toArray, List.set_cons_zero, List.set_cons_succ]
                  refine take_one (i := 10) (d := some 5) (v := .int .i64 at') rfl rfl rfl (by kernel_rfl) (by kernel_rfl) (by kernel_rfl) (fun _ _ _ _ _ h => h.elim) (fun W hS => by kernel_rfl) hs0 ?_
                  simp only [Act.put, List.setIfInBounds_toArray, List.set_cons_zero, List.set_cons_succ]
                  refine take_one (i := 11) (d := some 6) (v := .int .i64 er) rfl rfl rfl (by kernel_rfl) (by kernel_rfl) (by kernel_rfl) (fun _ _ _ _ _ h => h.elim) (fun W hS => by kernel_rfl) hs0 ?_
                  simp only [Act.put, List.setIfInBounds_toArray, List.set_cons_zero, List.set_cons_succ]
                  refine wpAnyH_done (by kernel_rfl) ?_ _
                  exact ⟨rfl, rfl⟩
                · rintro a' w' ⟨rfl, rfl⟩
                  simp only [Act.put, List.setIfInBounds_toArray, List.set_cons_zero, List.set_cons_succ]
                  go_wp2_with fail
                  exact bodyPost_ret (res3d (a := 4) (b := 5) (c := 6) rfl rfl rfl rfl HVL.out) rfl HX
              · have HPN : Hid (PI w4 R V zb zo zl zc (R + 1) FF zs E0 kind' at2 fr' w7) := hpi'
                have HLT : Hid (at' < at2) := hlt
                have HAN : Hid (atB w7 R = at2) := atB_of hpi'.rb
                have HLE : Hid (at2 ≤ zl) := hpi'.le
                clear hpi' hlt HHD
                go_wp2_with fail
                refine ⟨⟨_, _, _, _, _, _, _, _, _, _, _, _, _, _, _, _, _, _, _, _, _, _, _, _, _, _, _, _, _, _, _, _, _, _, ⟨kind', at2, fr', rfl, HPN.out⟩, rfl⟩, ?_⟩
                rw [HAN.out, HATB.out]
                have := HLT.out
                have := HLE.out
                omega
            | false =>
              by_cases h44 : kind = 44
              · have HHD : Hid _ := head_all HPF.out hpi.out (.inr h44) HRWL.out (by rw [← HZL.out]; exact HBIG.out) HZL.out hRV (by have := HZLT.out; have := HRQ.out; omega) (by have := HZLT.out; have := HVQ.out; omega) (by have := HZLT.out; have := HRQ.out; omega) (by omega) (by have := HRQ.out; have := HVQ.out; omega) HSZL.out
                have q44 : (kind == 44) = true := by simp [h44]
                clear hpi hV hrow hE hkf k36 hn9 h8 h44
                go_wp2_with fail
                refine Calls.mono HHD.out ?_
                rintro e w7 (⟨er, rfl, hr7, hE7, hs7⟩ | ⟨kind', at2, fr', rfl, hpi', hlt⟩)
                · have hbw7 : Below w.heap.size w w7 := HWR.out.trans (hs7.below HWR.out.size (fun b hb e => by have := HRQ.out; have := HVQ.out; omega))
                  have hz7 : w7.heap[w.heap.size]? = some (.cells zeroV.toArray 36) := hs7.blk HZR.out (by have := HRQ.out; have := HVQ.out; omega)
                  obtain ⟨w8, hst8, hb8, ho8⟩ := box_store Tryz.sizeOf36 (w := w7.drew) hz7 (by rfl) (vC zF zG (.slice none 0 0) (.slice none 0 0)) vC_len (vC_one rfl rfl)
                  rw [show (.agg (vC zF zG (.slice none 0 0) (.slice none 0 0)).toArray : Value) = .agg zeroV.toArray from rfl] at hst8
                  have hvl := vb_var hb8
                  rw [show VV zF zG (.slice none 0 0) (.slice none 0 0) = .agg zeroV.toArray from rfl] at hvl
                  have HVL : Hid _ := hvl
                  have HX : Hid (X (.returned (.tuple #[.agg zeroV.toArray, .int .i64 at', .int .i64 er])) w8) := HXB.out at' er hE7 w8 (hbw7.drew.trans (ho8.below (Nat.le_refl _)))
                  have HST8 : Hid _ := hst8
                  have HR7 : Hid (w7.heap[R]? = some (DBox (.slice (some ⟨zb, zo, none⟩) zl zc) at' er at')) := hr7
                  have HR8 : Hid (w8.heap[R]? = some (DBox (.slice (some ⟨zb, zo, none⟩) zl zc) at' er at')) := (ho8.other R (by have := HRQ.out; omega)).trans hr7
                  clear hr7 hE7 hs7 hbw7 hz7 hst8 hb8 ho8 hvl HHD HATB
                  go_wp2_with fail
                  refine region_mid (fun a0 a' w' => a' = (((((((((((a0.put (some 126) (.agg zeroV.toArray)).put (some 127) (.pointer (some ⟨R, 0, none⟩))).put (some 128) (.pointer (some ⟨R, 0, none⟩))).put (some 129) (.pointer (some ⟨R, 3, none⟩))).put (some 130) (.int .i64 at')).put (some 131) (.pointer (some ⟨R, 0, none⟩))).put (some 132) (.pointer (some ⟨R, 0, none⟩))).put (some 133) (.pointer (some ⟨R, 2, none⟩))).put (some 134) (.int .i64 er)).put (some 5) (.int .i64 at')).put (some 6) (.int .i64 er)) ∧ w' = w8) ?_ ?_
                  · skip
                    refine wp_region_held (S := fun X => X.heap[R]? = some (DBox (.slice (some ⟨zb, zo, none⟩) zl zc) at' er at')) (by kernel_rfl) ?_
                    show wpAnyH _ _ _ _ _ 12 (Array.replicate 12 false) _ _
                    have hs0 : w7.drew.heap[R]? = some (DBox (.slice (some ⟨zb, zo, none⟩) zl zc) at' er at') := HR7.out
                    refine take_one (i := 0) (d := some 126) (v := .agg zeroV.toArray) rfl rfl rfl (by kernel_rfl) (by kernel_rfl) (by kernel_rfl) (fun _ _ _ _ _ h => h.elim) (fun W hS => by kernel_rfl) hs0 ?_
                    simp only [Act.put, List.setIfInBounds_toArray, List.set_cons_zero, List.set_cons_succ]
                    refine take_one (i := 1) (d := some 127) (v := .pointer (some ⟨R, 0, none⟩)) rfl rfl rfl (by kernel_rfl) (by kernel_rfl) (by kernel_rfl) (fun _ _ _ _ _ h => h.elim) (fun W hS => by kernel_rfl) hs0 ?_
                    simp only [Act.put, List.setIfInBounds_toArray, List.set_cons_zero, List.set_cons_succ]
                    refine take_one (i := 2) (d := some 128) (v := .pointer (some ⟨R, 0, none⟩)) rfl rfl rfl (by kernel_rfl) (by kernel_rfl) (by kernel_rfl) (fun _ _ _ _ _ h => h.elim) (fun W hS => by kernel_rfl) hs0 ?_
                    simp only [Act.put, List.setIfInBounds_toArray, List.set_cons_zero, List.set_cons_succ]
                    refine take_one (i := 3) (d := some 129) (v := .pointer (some ⟨R, 3, none⟩)) rfl rfl rfl (by kernel_rfl) (by kernel_rfl) (by kernel_rfl) (fun _ _ _ _ _ h => h.elim) (fun W hS => by kernel_rfl) hs0 ?_
                    simp only [Act.put, List.setIfInBounds_toArray, List.set_cons_zero, List.set_cons_succ]
                    refine take_one (i := 4) (d := some 130) (v := .int .i64 at') rfl rfl rfl (by kernel_rfl) (by kernel_rfl) (by kernel_rfl) (fun _ _ _ _ _ h => h.elim) (fun W hS => ex_loadA (.tmp 129) 3 rfl rfl (ld_int (blk_cell hS (j := 3) rfl))) hs0 ?_
                    simp only [Act.put, List.setIfInBounds_toArray, List.set_cons_zero, List.set_cons_succ]
                    refine take_one (i := 5) (d := some 131) (v := .pointer (some ⟨R, 0, none⟩)) rfl rfl rfl (by kernel_rfl) (by kernel_rfl) (by kernel_rfl) (fun _ _ _ _ _ h => h.elim) (fun W hS => by kernel_rfl) hs0 ?_
                    simp only [Act.put, List.setIfInBounds_toArray, List.set_cons_zero, List.set_cons_succ]
                    refine take_one (i := 6) (d := some 132) (v := .pointer (some ⟨R, 0, none⟩)) rfl rfl rfl (by kernel_rfl) (by kernel_rfl) (by kernel_rfl) (fun _ _ _ _ _ h => h.elim) (fun W hS => by kernel_rfl) hs0 ?_
                    simp only [Act.put, List.setIfInBounds_toArray, List.set_cons_zero, List.set_cons_succ]
                    refine take_one (i := 7) (d := some 133) (v := .pointer (some ⟨R, 2, none⟩)) rfl rfl rfl (by kernel_rfl) (by kernel_rfl) (by kernel_rfl) (fun _ _ _ _ _ h => h.elim) (fun W hS => by kernel_rfl) hs0 ?_
                    simp only [Act.put, List.setIfInBounds_toArray, List.set_cons_zero, List.set_cons_succ]
                    refine take_one (i := 8) (d := some 134) (v := .int .i64 er) rfl rfl rfl (by kernel_rfl) (by kernel_rfl) (by kernel_rfl) (fun _ _ _ _ _ h => h.elim) (fun W hS => ex_loadA (.tmp 133) 3 rfl rfl (ld_int (blk_cell hS (j := 2) rfl))) hs0 ?_
                    simp only [Act.put, List.setIfInBounds_toArray, List.set_cons_zero, List.set_cons_succ]
                    refine all_one (i := 9) (by kernel_rfl) rfl rfl ?_
                    refine wp_storeA (.tmp 4) (.tmp 126) 36 rfl rfl rfl rfl HST8.out ⟨HR8.out, ?_⟩
                    have hs0 := HR8.out
                    try simp only [Act.put, List.setIfInBounds_toArray, List.set_cons_zero, List.set_cons_succ]
                    refine take_one (i := 10) (d := some 5) (v := .int .i64 at') rfl rfl rfl (by kernel_rfl) (by kernel_rfl) (by kernel_rfl) (fun _ _ _ _ _ h => h.elim) (fun W hS => by kernel_rfl) hs0 ?_
                    simp only [Act.put, List.setIfInBounds_toArray, List.set_cons_zero, List.set_cons_succ]
                    refine take_one (i := 11) (d := some 6) (v := .int .i64 er) rfl rfl rfl (by kernel_rfl) (by kernel_rfl) (by kernel_rfl) (fun _ _ _ _ _ h => h.elim) (fun W hS => by kernel_rfl) hs0 ?_
                    simp only [Act.put, List.setIfInBounds_toArray, List.set_cons_zero, List.set_cons_succ]
                    refine wpAnyH_done (by kernel_rfl) ?_ _
                    exact ⟨rfl, rfl⟩
                  · rintro a' w' ⟨rfl, rfl⟩
                    simp only [Act.put, List.setIfInBounds_toArray, List.set_cons_zero, List.set_cons_succ]
                    go_wp2_with fail
                    exact bodyPost_ret (res3d (a := 4) (b := 5) (c := 6) rfl rfl rfl rfl HVL.out) rfl HX
                · have HPN : Hid (PI w4 R V zb zo zl zc (R + 1) FF zs E0 kind' at2 fr' w7) := hpi'
                  have HLT : Hid (at' < at2) := hlt
                  have HAN : Hid (atB w7 R = at2) := atB_of hpi'.rb
                  have HLE : Hid (at2 ≤ zl) := hpi'.le
                  clear hpi' hlt HHD
                  go_wp2_with fail
                  refine ⟨⟨_, _, _, _, _, _, _, _, _, _, _, _, _, _, _, _, _, _, _, _, _, _, _, _, _, _, _, _, _, _, _, _, _, _, ⟨kind', at2, fr', rfl, HPN.out⟩, rfl⟩, ?_⟩
                  rw [HAN.out, HATB.out]
                  have := HLT.out
                  have := HLE.out
                  omega
              · have q44 : (kind == 44) = false := by simp [h44]
                obtain ⟨n, rfl⟩ : ∃ m, n = m + 1 := ⟨n - 1, by omega⟩
                have hE2 : E0 = .ok hs zG kind (zs.drop at') := by rw [← hE, rdH, if_neg (by rw [hk]; simp), endR_plain h44]
                have HRB : Hid (wr.heap[R]? = some (DBox (.slice (some ⟨zb, zo, none⟩) zl zc) at' 0 0)) := hpi.out.rb
                have HAT : Hid (at' ≤ zl) := hpi.out.le
                have HV0 : Hid (wr.heap[V]? = some (BV (FF 0) zG vh (.slice none 0 0))) := hV
                have HROW : Hid (HRow (R + 1) wr vh hs ds) := hrow
                have HH8 : Hid (hs.length ≤ 8) := h8
                have HE : Hid (E0 = .ok hs zG kind (zs.drop at')) := hE2
                clear hpi hV hrow hE h8 hkf hE2 hn9 h44
                obtain ⟨W7, hW7⟩ : ∃ W7, W7 = wr.setCell ⟨V, 40, none⟩ (.int .u8 kind) := ⟨_, rfl⟩
                have ho7 : Only V wr W7 := by rw [hW7]; exact (Only.refl V wr).set 40 _
                have hv7 : W7.heap[V]? = some (BV (FF kind) zG vh (.slice none 0 0)) := by
                  have := vs40 HV0.out kind
                  rw [HPF.out] at this
                  rw [hW7]; exact this
                have HV : Hid (W7.heap[V]? = some (BV (FF kind) zG vh (.slice none 0 0))) := hv7
                have HBW : Hid (Below w.heap.size w W7) := HBWL.out.trans (ho7.below (by have := HVQ.out; omega))
                have HZW : Hid (W7.heap[w.heap.size]? = some (.cells zeroV.toArray 36)) := (ho7.other _ (by have := HVQ.out; omega)).trans HZWL.out
                have HRW : Hid (HRow (R + 1) W7 vh hs ds) := HROW.out.sep (Sep.of_only (O := fun b => b = V) ho7 rfl) (fun b hb e => by have := HRQ.out; have := HVQ.out; omega)
                have HRB7 : Hid (W7.heap[R]? = some (DBox (.slice (some ⟨zb, zo, none⟩) zl zc) at' 0 0)) := (ho7.other R hRV).trans HRB.out
                have k40 := vb40 HV0.out
                have o40 := blk_open HV0.out 40
                have hW7' := hW7.symm
                clear ho7 hv7 hW7
                obtain ⟨u, hu, hbu⟩ := cut_rest (HBS.out.on HBW.out) (by rw [HZL.out]; omega) at' (by rw [HZL.out]; exact HAT.out)
                rw [HZL.out] at hu
                obtain ⟨A1, hA1⟩ : ∃ A1, A1 = W7.alloc (.cells #[] 5) := ⟨_, rfl⟩
                have hb1 : Below W7.heap.size W7 A1 := by rw [hA1]; exact (Below.refl W7.heap.size W7).alloc (Nat.le_refl _) _
                have hs1 : A1.heap.size = W7.heap.size + 1 := by rw [hA1]; simp
                obtain ⟨b2, c2, W8, hrun, hb8, hc8⟩ := copy_run (B := W7.heap.size) hbu.bytes hb1 (Nat.le_refl _) (by omega) 25
                have hbb := hc8.bs hbu.row.fit hbu.row.len
                have hB8 : Below W7.heap.size W7 W8 := hb1.trans (hb8.mono hb1.size)
                obtain ⟨bn, hbn⟩ : ∃ bn, (zs.drop at').length = bn := ⟨_, rfl⟩
                rw [hbn] at hrun hbb
                have hv8 := blk_on HV.out hB8
                have m1 : W7.cell? ⟨R, 1, none⟩ = some (.int .i64 at') := blk_cell HRB7.out (j := 1) rfl
                have m1a : A1.cell? ⟨R, 1, none⟩ = some (.int .i64 at') := blk_cell (blk_on HRB7.out hb1) (j := 1) rfl
                obtain ⟨W9, hst9, hv9, ho9⟩ : ∃ W9, (Instr.storeAt 25 (.pointer (some ⟨V, 41, none⟩)) (.slice (some ⟨b2, 0, none⟩) bn c2)).run Tryz.prog W8 = .ok () W9 ∧ W9.heap[V]? = some (BV (FF kind) zG vh (.slice (some ⟨b2, 0, none⟩) bn c2)) ∧ Only V W8 W9 := ⟨_, st_row hv8 (show 41 < _ by rw [vC_len]; omega) ⟨_, _, _, rfl⟩, vs41 hv8 _, (Only.refl _ W8).set 41 _⟩
                have HL9 : Hid _ := vb_load hv9
                have hrow9 := (HRW.out.on hB8).sep (Sep.of_only (O := fun b => b = V) ho9 rfl) (fun b hb e => by have := HRQ.out; have := HVQ.out; omega)
                have hVlt : V < W7.heap.size := (Array.getElem?_eq_some_iff.1 HV.out).1
                have hbb9 := hbb.sep (Sep.of_only (O := fun b => b = V) ho9 rfl) (fun b hb e => by omega)
                have hz9 : W9.heap[w.heap.size]? = some (.cells zeroV.toArray 36) := (ho9.other _ (by have := HVQ.out; omega)).trans (blk_on HZW.out hB8)
                obtain ⟨wf, hstf, hbxf, honf⟩ := box_store Tryz.sizeOf36 hz9 (by rfl) (vC (FF kind) zG vh (.slice (some ⟨b2, 0, none⟩) bn c2)) vC_len (vC_one (hrow9.hs (by have := HH8.out; omega)).one rfl)
                have HVL : Hid _ := vb_var hbxf
                have hrowf := hrow9.sep (Sep.of_only (O := fun b => b = w.heap.size) honf rfl) (fun b hb e => by have := HRQ.out; omega)
                have hbbf := hbb9.sep (Sep.of_only (O := fun b => b = w.heap.size) honf rfl) (fun b hb e => by have := HVQ.out; omega)
                have hbf : Below w.heap.size w wf := ((HBW.out.trans (hB8.mono HBW.out.size)).trans (ho9.below (by have := HVQ.out; omega))).trans (honf.below (Nat.le_refl _))
                have HX : Hid (X (.returned (.tuple #[VV (FF kind) zG vh (.slice (some ⟨b2, 0, none⟩) bn c2), .int .i64 0, .int .i64 0])) wf) := HXO.out hs zG kind (zs.drop at') HE.out wf vh _ ⟨(hrowf.hs (by have := HH8.out; omega)).mono (fun b _ hb => by have := HRQ.out; omega), hbbf.mono (fun b _ hb => by have := HBW.out.size; omega), HLABF.out kind⟩ hbf
                have HU : Hid _ := hu
                have HRUN : Hid _ := hrun
                have HST9 : Hid _ := hst9
                have HSTF : Hid _ := hstf
                have hA1' := hA1.symm
                clear hu hbu hb1 hs1 hrun hb8 hc8 hbb hB8 hv8 hst9 hv9 ho9 hrow9 hVlt hbb9 hz9 hstf hbxf honf hrowf hbbf hbf hA1 hbn HBW HZW HRW HRB7 HV
                go_wp2_with first
                  | ((with_reducible show wpList _ _ _ ({ dst := _, op := Op.slice 25 (Operand.tmp 142) _ _ _, type := _, pos := _, after := _, guard := _ } :: _) _ _); refine arm_slice rfl 25 (.tmp 142) (some (.tmp 146)) none rfl rfl rfl rfl (HU.out _) ?_)
                  | (at_builtin; refine wpList_append_run rfl _ _ _ _ rfl rfl rfl HRUN.out ?_)
                  | ((with_reducible show wpList _ _ _ ({ dst := _, op := Op.store 25 (Operand.tmp 149) _, type := _, pos := _, after := _, guard := _ } :: _) _ _); refine armS (.tmp 149) (.tmp 148) 25 rfl rfl rfl rfl HST9.out ?_; try simp only [Act.put])
                  | ((with_reducible show wpList _ _ _ ({ dst := _, op := Op.load 36 (Operand.tmp 8), type := _, pos := _, after := _, guard := _ } :: _) _ _); refine armL (.tmp 8) 36 rfl rfl rfl HL9.out ?_)
                  | ((with_reducible show wpList _ _ _ ({ dst := _, op := Op.store 36 (Operand.tmp 4) _, type := _, pos := _, after := _, guard := _ } :: _) _ _); refine armS (.tmp 4) (.tmp 150) 36 rfl rfl rfl rfl HSTF.out ?_; try simp only [Act.put])
                exact bodyPost_ret (res3d (a := 4) (b := 5) (c := 6) rfl rfl rfl rfl HVL.out) rfl HX
end
end Go.Proofs.YtpgnnplpcalbbaaGreat.V6
