/-
  MSS of package segment; place and MSS of the document.
-/
import Derived.Test.YtodbgomoedhfaaaSn2
namespace Go.Proofs.Ytodbgomoedhfaaa
open Go Go.RowKit Go.Shelf
set_option linter.unusedVariables false
set_option linter.unusedSimpArgs false

def mssN (t : Seg) : Int := match mssO t with
  | none => 0
  | some i => wd2 t.opts i
def mssB (t : Seg) : Bool := (mssO t).isSome
/-- A segment's cells, its options a row. -/
structure TcpA (w : World) (c : List Value) (t : Seg) : Prop where
  val : ∃ vo vd, c = [.int .u16 t.src, .int .u16 t.dst, .int .u32 t.seq, .int .u32 t.ack, .int .u8 t.fl, .int .u16 t.win, .int .u16 t.urg, vo, vd] ∧ RowC w vo t.opts ∧ BytesAt w.heap.size w vd t.data
  all : TcpC w c t
theorem TcpA.on {w W : World} {c : List Value} {t : Seg} (h : TcpA w c t) (hb : Below w.heap.size w W) : TcpA W c t := by
  obtain ⟨⟨vo, vd, h1, h2, h3⟩, h4⟩ := h
  exact ⟨⟨vo, vd, h1, h2.on hb, h3.later hb⟩, h4.on hb⟩

set_option maxHeartbeats 2000000 in
set_option maxRecDepth 100000 in
theorem MSS_calls (c : List Value) (t : Seg) (w : World) (h : TcpA w c t) :
    Calls Try.prog 28 #[.agg c.toArray] w fun e w' => e = .returned (.tuple #[.int .i64 (mssN t), .bool (mssB t)]) ∧ Below w.heap.size w w' := by
  obtain ⟨⟨vo, vd, hcc, hr, hd⟩, hall⟩ := h
  have b0 := blk_new w (.cells c.toArray 34)
  have hB0 := (Below.refl w.heap.size w).alloc (Nat.le_refl _) (.cells c.toArray 34)
  obtain ⟨W0, hW0⟩ : ∃ W0, w.alloc (.cells c.toArray 34) = W0 := ⟨_, rfl⟩
  rw [hW0] at b0 hB0
  have HL : Hid _ := agg_load (t := 34) Try.isAgg34 Try.sizeOf34 hall.len (CellsAt.of_blk b0)
  have HP : Hid _ := mssPlace_calls c t vo vd W0 hcc ⟨hall.ff.1, by have := hall.ff.2; omega⟩ (hr.on hB0)
  have HB0 : Hid _ := hB0
  have HRW : Hid (∀ W, Below W0.heap.size W0 W → RowC W vo t.opts) := fun W hW => hr.on (hB0.trans (hW.mono hB0.size))
  unfold mssN mssB
  clear b0 hB0 hall hd hcc hr
  cases ho : mssO t with
  | none =>
    rw [ho] at HP
    have hq := fun W => Go.Lib.run_eql_slice_nil (P := Try.prog) W 29 5 none 0 0 0 0 Try.underlying29
    clear ho
    go_enter Try.func28, Try.ntmps28
    go_wp2_with ((with_reducible show wpList _ _ _ _ _ _); refine arm_load rfl (.tmp 1) 34 rfl rfl HL.out ?_)
    refine Calls.mono HP.out ?_
    rintro _ w1 ⟨rfl, hb1⟩
    have hq1 := hq w1
    have HX : Hid _ := HB0.out.trans (hb1.mono HB0.out.size)
    clear hb1 hq
    go_wp2
    go_ret2
    exact ⟨rfl, HX.out⟩
  | some i =>
    rw [ho] at HP
    clear ho
    go_enter Try.func28, Try.ntmps28
    go_wp2_with ((with_reducible show wpList _ _ _ _ _ _); refine arm_load rfl (.tmp 1) 34 rfl rfl HL.out ?_)
    refine Calls.mono HP.out ?_
    rintro _ w1 ⟨⟨b, off, cap, rfl, hcap, hi2, _, rfl⟩, hb1⟩
    have hR := HRW.out w1 hb1
    obtain ⟨b', off', cap', hS⟩ := hR.rowS (by omega)
    obtain ⟨e1, e2, e3⟩ : b = b' ∧ off = off' ∧ cap = cap' := by
      have k := hS.val
      simp at k
      exact ⟨k.1.1, k.1.2, k.2⟩
    subst e1 e2 e3
    have HW : Hid _ := wordOf_calls b (off + i) 2 (cap - i) (gz t.opts i) (gz t.opts (i + 1)) w1 (by decide) (hS.cell i (by omega)) (by rw [Nat.add_assoc]; exact hS.cell (i + 1) (by omega)) (hS.fit.gz i) (hS.fit.gz (i + 1))
    have hwr := wd2_range hS.fit i
    have hq1 := Go.Lib.run_eql_slice_nil (P := Try.prog) w1 29 5 (some ⟨b, off + i, none⟩) 2 (cap - i) 0 0 Try.underlying29
    have HX : Hid _ := HB0.out.trans (hb1.mono HB0.out.size)
    have hwe : gz t.opts i * 256 + gz t.opts (i + 1) = wd2 t.opts i := rfl
    rw [hwe] at HW
    obtain ⟨x, hx⟩ : ∃ x, wd2 t.opts i = x := ⟨_, rfl⟩
    rw [hx] at HW hwr
    have HXE : Hid _ := hx
    clear hx
    clear hR hS hb1 HRW HP hwe
    go_wp2_with fail
    refine Calls.mono HW.out ?_
    rintro _ w2 ⟨rfl, rfl⟩
    go_wp2
    go_ret2
    obtain rfl := HXE.out
    exact ⟨rfl, HX.out.drew⟩

/-- place of the document. -/
def plI (o : Option Nat) : Int := match o with
  | none => -1
  | some i => (i : Int)
set_option maxHeartbeats 4000000 in
set_option maxRecDepth 100000 in
theorem place_calls (c : List Value) (t : Seg) (w : World) (h : TcpC w c t) :
    Calls Try.prog 55 #[.agg c.toArray] w fun e w' => e = .returned (.int .i64 (plI (mssO t))) ∧ Below w.heap.size w w' := by
  obtain ⟨⟨vo, vd, hcc, hr, hd⟩, _, _, _, _, hfl, _⟩ := h
  have b0 := blk_new w (.cells c.toArray 34)
  have hB0 := (Below.refl w.heap.size w).alloc (Nat.le_refl _) (.cells c.toArray 34)
  obtain ⟨W0, hW0⟩ : ∃ W0, w.alloc (.cells c.toArray 34) = W0 := ⟨_, rfl⟩
  rw [hW0] at b0 hB0
  have k4 := blk_cell (j := 4) b0 (by rw [hcc]; rfl)
  have k7 := blk_cell (j := 7) b0 (by rw [hcc]; rfl)
  have hand := and_syn t.fl ⟨hfl.1, by omega⟩
  have hrow := hr.later hB0
  have hlen := hr.len
  have hfit := hr.fit
  unfold mssO
  generalize hfb : t.fl / 2 % 2 = fb at *
  have hfb01 : fb = 0 ∨ fb = 1 := by omega
  generalize t.fl = fl at *
  generalize t.opts = zs at *
  have HB0 : Hid _ := hB0
  rcases hfb01 with rfl | rfl
  · rw [if_pos rfl]
    obtain ⟨av, cv, rfl, _⟩ := hr.val
    clear b0 hB0 hrow hr hcc hfb
    go_enter Try.func55, Try.ntmps55
    go_wp2
    go_ret
    exact ⟨rfl, HB0.out⟩
  · rw [if_neg (by decide)]
    obtain ⟨av, cv, rfl, hz⟩ := hrow.val
    have HCE : Hid (∀ j, j < zs.length → ∃ b off, av = some ⟨b, off, none⟩ ∧ W0.cell? ⟨b, off + j, none⟩ = some (.int .u8 (gz zs j))) := fun j hj => by
      rcases hz with hz | ⟨b, off, e, _, hc⟩
      · omega
      · exact ⟨b, off, e, hc j hj⟩
    have HGZ : Hid (∀ k, 0 ≤ gz zs k ∧ gz zs k < 256) := fun k => hfit.gz k
    obtain ⟨pr, hpr⟩ : ∃ pr, plI (pl zs 0) = pr := ⟨_, rfl⟩
    rw [hpr]
    have HPR : Hid _ := hpr
    clear b0 hB0 hrow hr hcc hfb hfit hz hpr
    go_enter Try.func55, Try.ntmps55
    go_wp2
    go_loopw [4] (fun n wr => ∃ i : Nat, i ≤ zs.length ∧ n = .int .i64 (i : Int) ∧ pl zs 0 = pl zs i ∧ wr = W0) (fun n _ => zs.length - (intOf n).toNat)
    case atStart => exact ⟨0, by omega, rfl, rfl, rfl⟩
    case round =>
      obtain ⟨i, hi, rfl, hpl, hwr⟩ := hrel
      subst hwr
      have HPL : Hid _ := hpl
      have HNO : Hid (pl zs i = none → pr = -1) := fun k => by rw [← HPR.out, HPL.out, k]; rfl
      clear hpl
      by_cases hlt : i < zs.length
      · obtain ⟨b, off, rfl, g0⟩ := HCE.out i hlt
        have hzr := HGZ.out i
        obtain ⟨z, hz⟩ : ∃ z, gz zs i = z := ⟨_, rfl⟩
        rw [hz] at g0 hzr
        have HZ : Hid _ := hz
        clear hz
        by_cases z0 : z = 0
        · subst z0
          have HP : Hid _ := HNO.out (pl_zero hlt HZ.out)
          go_wp2
          go_ret
          exact ⟨by rw [HP.out]; rfl, HB0.out⟩
        · have q0 : (z != 0) = true := by simpa using z0
          by_cases z1 : z = 1
          · subst z1
            have HP : Hid _ := pl_one hlt HZ.out
            go_wp2
            exact ⟨⟨i + 1, by omega, by simp, HPL.out.trans HP.out, trivial⟩, by simp [intOf]; omega⟩
          · have q1 : (z == 1) = false := by simpa using z1
            by_cases h1 : i + 1 < zs.length
            · obtain ⟨b', off', e', g1⟩ := HCE.out (i + 1) h1
              cases e'
              have hyr := HGZ.out (i + 1)
              obtain ⟨y, hy⟩ : ∃ y, gz zs (i + 1) = y := ⟨_, rfl⟩
              rw [hy] at g1 hyr
              have HY : Hid _ := hy
              clear hy
              have HSO : Hid (szO zs i = if 2 ≤ y ∧ i + y.toNat ≤ zs.length then y.toNat else 0) := by
                have : szO zs i = if 2 ≤ y ∧ i + y.toNat ≤ zs.length then y.toNat else 0 := by
                  unfold szO
                  rw [HY.out]
                  by_cases k : 2 ≤ y ∧ i + y.toNat ≤ zs.length
                  · rw [if_pos ⟨h1, k⟩, if_pos k]
                  · rw [if_neg (fun q => k q.2), if_neg k]
                exact this
              by_cases hy2 : 2 ≤ y
              · by_cases hyl : (i : Int) + y ≤ zs.length
                · have hso : szO zs i = y.toNat := by rw [HSO.out, if_pos ⟨hy2, by omega⟩]
                  by_cases h24 : z = 2 ∧ y = 4
                  · obtain ⟨rfl, rfl⟩ := h24
                    have HP : Hid (pr = (i : Int) + 2) := by
                      have : pr = (i : Int) + 2 := by
                        rw [← HPR.out, HPL.out, pl_mss hlt HZ.out (by rw [hso]; rfl)]
                        simp [plI]
                      exact this
                    clear hso
                    go_wp2
                    go_ret
                    exact ⟨by rw [HP.out]; rfl, HB0.out⟩
                  · have HP : Hid _ := pl_go hlt (by rw [HZ.out]; exact z0) (by rw [HZ.out]; exact z1) (by omega) (fun k => h24 ⟨HZ.out ▸ k.1, by have := k.2; omega⟩)
                    rw [hso] at HP
                    have hyn : (i : Int) + y = ((i + y.toNat : Nat) : Int) := by omega
                    have HYN : Hid _ := hyn
                    have hyl2 : i + y.toNat ≤ zs.length := by omega
                    clear hso hyn
                    by_cases z2 : z = 2
                    · subst z2
                      have q4 : (y == 4) = false := by simpa using h24
                      clear h24
                      go_wp2
                      exact ⟨⟨i + y.toNat, hyl2, by rw [HYN.out], HPL.out.trans HP.out, trivial⟩, by rw [HYN.out]; simp [intOf]; omega⟩
                    · have q2 : (z == 2) = false := by simpa using z2
                      clear h24 z2
                      go_wp2
                      exact ⟨⟨i + y.toNat, hyl2, by rw [HYN.out], HPL.out.trans HP.out, trivial⟩, by rw [HYN.out]; simp [intOf]; omega⟩
                · have hyl' : (zs.length : Int) < (i : Int) + y := by omega
                  have HP : Hid _ := HNO.out (pl_bad hlt (by rw [HZ.out]; exact z0) (by rw [HZ.out]; exact z1) (by rw [HSO.out, if_neg (by omega)]))
                  clear hyl
                  go_wp2
                  go_ret
                  exact ⟨by rw [HP.out]; rfl, HB0.out⟩
              · have hy2' : y < 2 := by omega
                have HP : Hid _ := HNO.out (pl_bad hlt (by rw [HZ.out]; exact z0) (by rw [HZ.out]; exact z1) (by rw [HSO.out, if_neg (by omega)]))
                clear hy2
                go_wp2
                go_ret
                exact ⟨by rw [HP.out]; rfl, HB0.out⟩
            · have h1' : zs.length ≤ i + 1 := by omega
              have HP : Hid _ := HNO.out (pl_bad hlt (by rw [HZ.out]; exact z0) (by rw [HZ.out]; exact z1) (by unfold szO; rw [if_neg (fun k => h1 k.1)]))
              clear h1
              go_wp2
              go_ret
              exact ⟨by rw [HP.out]; rfl, HB0.out⟩
      · obtain rfl : i = zs.length := by omega
        have HP : Hid _ := HNO.out (pl_end rfl)
        go_wp2
        go_ret
        exact ⟨by rw [HP.out]; rfl, HB0.out⟩

end Go.Proofs.Ytodbgomoedhfaaa
