/-
  The statement SplitAll.
-/
import Derived.Test.YtackllcfnlhkpaaVe1
namespace Go.Proofs.Ytackllcfnlhkpaa
open Go Go.RowKit Go.ChangeShapes Go.WideShapes Go.ChangeAt
set_option linter.unusedVariables false
set_option linter.unusedSimpArgs false

theorem bodies_take_le (L : List Fg) (k : Nat) : (bodies (L.take k)).length ≤ (bodies L).length := by
  have h : bodies L = bodies (L.take k) ++ bodies (L.drop k) := by
    conv => lhs; rw [← List.take_append_drop k L]
    unfold bodies
    rw [List.flatMap_append]
  rw [h, List.length_append]
  omega
/-- A fragment in its row: what lies there, in every world above. -/
theorem row_at {f : Fd} {base : Nat} {S : Nat → Prop} {w : World} {a : Option Addr} {c : Nat} {L : List Fg} (h : RowV f base S w (.slice a L.length c) L) {k : Nat} {g : Fg} (hg : L[k]? = some g) :
    ∃ b so sb a1 c1, a = some ⟨b, 0, none⟩ ∧ b < w.heap.size ∧ sb = .slice a1 g.body.length c1 ∧ BS S w so g.opts ∧ BS S w sb g.body ∧ ∀ W, Below w.heap.size w W → (Instr.loadAt 27 (.pointer (some ⟨b, k * 17, none⟩))).run Try.prog W = .ok (VV f g.mf g.off so sb) W ∧ W.cell? ⟨b, k * 17 + 3, none⟩ = some (.bool g.mf) ∧ W.cell? ⟨b, k * 17 + 4, none⟩ = some (.int .i64 g.off) ∧ W.cell? ⟨b, k * 17 + 16, none⟩ = some sb := by
  obtain ⟨b, c', so, sb, e, lt, _, ca, bo, bb⟩ := h.at hg
  injection e with e _ _
  obtain ⟨_, _, a1, c1, e1, _⟩ := bb.row
  refine ⟨b, so, sb, a1, c1, e, lt, e1, bo, bb, fun W hW => ?_⟩
  have ca' := CellsAt.up ca lt ⟨W, hW⟩
  exact ⟨agg_load Try.isAgg27 Try.sizeOf27 (vC_len ..) ca', ca' 3 _ rfl, ca' 4 _ rfl, ca' 16 _ rfl⟩

section
variable (f : Fd) (mf : Bool) (off : Int) (so sb : Value) (opts body : List Int) (mtu : Int) (w : World)
set_option maxHeartbeats 8000000 in
set_option maxRecDepth 100000 in
theorem splitAll_walk (h1 : RowC w so opts) (h2 : RowC w sb body) (hoff : -9223372036854775808 ≤ off ∧ off ≤ 9223372036854775807) (hmt : -9223372036854775808 ≤ mtu ∧ mtu ≤ 9223372036854775807) :
    Calls Try.prog 5 #[VV f mf off so sb, .int .i64 mtu] w fun e w' => e = .returned (.bool true) ∧ Below w.heap.size w w' := by
  have hb0 := blk_new w (BV f mf off so sb)
  have hB0 : Below w.heap.size w (w.alloc (BV f mf off so sb)) := (Below.refl w.heap.size w).alloc (Nat.le_refl _) (BV f mf off so sb)
  have HLD : Hid _ := vb_load hb0
  have HB0 : Hid _ := hb0
  have HBB : Hid (Below w.heap.size w (w.alloc (BV f mf off so sb))) := hB0
  have HCT : Hid _ := cut_calls f mf off so sb opts body w (w.alloc (BV f mf off so sb)) h1 h2
  have HAL : Hid (∀ X, Calls Try.prog 16 #[] X fun e w' => e = .returned (.bool true) ∧ Below X.heap.size X w') := fun X => alive_calls X
  clear hb0 hB0 h1 h2
  go_enter Try.func5, Try.ntmps5

  go_wp2_with first
    | ((with_reducible show wpList _ _ _ ({ dst := _, op := Op.load 27 (Operand.tmp 2), type := _, pos := _, after := _, guard := _ } :: _) _ _); refine armL (.tmp 2) 27 rfl rfl rfl HLD.out ?_)
  refine Calls.mono HCT.out ?_
  rintro e w1 ⟨so1, sb1, rfl, hr1, hr2, hb1⟩
  have hk1 := blk_on HB0.out hb1
  obtain ⟨w2, hst2, hbx2, hon2⟩ := box_store Try.sizeOf27 hk1 rfl (vC f mf off so1 sb1) rfl (vC_one f mf off (BS.of_row hr1).one (BS.of_row hr2).one)
  have hB2 : Below w.heap.size w w2 := (HBB.out.trans (hb1.mono HBB.out.size)).trans (hon2.below (Nat.le_refl _))
  have hq1 : RowC w2 so1 (opts.take 100) := hr1.on hB2
  have hq2 : RowC w2 sb1 (body.take 70000) := hr2.on hB2
  have hbl : (body.take 70000).length ≤ 70000 := by rw [List.length_take]; omega
  generalize opts.take 100 = o at *
  generalize body.take 70000 = b at *
  have HLDX : Hid _ := vb_load hbx2
  have K1 : Hid _ := Split_calls f mf off so1 sb1 o b mtu w2 hq1 hq2 hoff hmt
  have HQ2 : Hid (RowC w2 sb1 b) := hq2
  have HBX : Hid (w2.heap[w.heap.size]? = some (BV f mf off so1 sb1)) := hbx2
  have HST : Hid _ := hst2
  have HB2 : Hid (Below w.heap.size w w2) := hB2
  clear hq1 hq2 hr1 hr2 hbx2 hon2 hst2 hB2 hk1 hb1 HCT HLD HB0 HBB

  go_wp2_with first
    | ((with_reducible show wpList _ _ _ ({ dst := _, op := Op.store 27 (Operand.tmp 2) (Operand.tmp 13), type := _, pos := _, after := _, guard := _ } :: _) _ _); refine armS (.tmp 2) (Operand.tmp 13) 27 rfl rfl rfl rfl HST.out ?_; simp only [Act.put])
    | ((with_reducible show wpList _ _ _ ({ dst := _, op := Op.load 27 (Operand.tmp 2), type := _, pos := _, after := _, guard := _ } :: _) _ _); refine armL (.tmp 2) 27 rfl rfl rfl HLDX.out ?_)
  refine Calls.mono K1.out ?_
  rintro e X1 ⟨v1, rfl, hr1, hB1⟩
  clear K1 HST HLDX
  have HBX1 : Hid (Below w.heap.size w X1) := HB2.out.trans (hB1.mono HB2.out.size)
  have HVB : Hid (X1.heap[w.heap.size]? = some (BV f mf off so1 sb1)) := blk_on HBX.out hB1
  have HQX : Hid (RowC X1 sb1 b) := HQ2.out.on hB1
  by_cases hE : refE f.df mf off o b mtu = 0
  · have hw := wrong_ok (ref_ok hE)
    have hk := chk_ok hw.1
    obtain ⟨m, rfl⟩ : ∃ m : Nat, mtu = m := ⟨mtu.toNat, by omega⟩
    have hout : outL f.df mf off o b m = fragL mf off o b m := by unfold outL; rw [if_pos hE]
    obtain ⟨HOK, hbod, hNpos⟩ := frag_ok hE
    have hfar := ref_far hE
    have hLl := fragL_len (mf := mf) (off := off) (opts := o) (body := b) (mtu := m) (by omega)
    rw [hE]
    rw [hout] at hr1
    obtain ⟨a1, c1, e1⟩ := hr1.slc
    subst e1
    have hofL := outL_off (df := f.df) (mf := mf) (off := off) (opts := o) (body := b) (mtu := m)
    clear hout hofL hE
    generalize hLL : fragL mf off o b m = L at *
    clear hLL
    have HR : Hid (RowV f w2.heap.size (fun b => w2.heap.size ≤ b) X1 (.slice a1 L.length c1) L) := hr1
    have HFO : Hid _ := HOK
    have HFAR : Hid _ := hfar
    have HBOD : Hid (bodies L = b) := hbod
    have hm1 : 68 ≤ m := by omega
    have hm2 : m ≤ 65535 := by omega
    have hofr : 0 ≤ off ∧ off ≤ 8191 := ⟨hk.1, hk.2.1⟩
    clear hr1 HOK hfar hbod hw hk hB1 HB2 HQ2 HBX
    obtain ⟨N, hN⟩ : ∃ N, L.length = N := ⟨_, rfl⟩
    have HN : Hid _ := hN
    rw [hN] at hLl hNpos
    rw [hN]
    clear hN
    go_wp2_with fail
    go_loopw [7, 8] (fun bv i wr => ∃ k : Nat, k ≤ N ∧ i = .int .i64 k ∧ Hid (OB X1.heap.size X1 wr bv (bodies (L.take k))) ∧ X1.heap.size ≤ wr.heap.size) (fun _ i _ => N - (intOf i).toNat)
    case atStart => exact ⟨0, Nat.zero_le _, rfl, by show OB _ _ _ _ _; simp only [List.take_zero]; exact OB.nil X1 _, Nat.le_refl _⟩
    case round =>
      obtain ⟨k, hk, rfl, hob, hsz⟩ := hrel
      obtain ⟨ab, cb, hbv⟩ := hob.out.slc
      subst hbv
      by_cases hlt : k < N
      · obtain ⟨g, hg⟩ : ∃ g, L[k]? = some g := ⟨L[k]'(by rw [HN.out]; exact hlt), by simp⟩
        obtain ⟨bk, sog, sbg, ag, cg, ea, hbk, esb, hbo, hbb, hat⟩ := row_at HR.out hg
        subst ea
        have hok := HFO.out k g hg
        have hfo := HFAR.out k g hg
        have hBw := hob.out.bel
        have HLV : Hid _ := (hat _ hBw).1
        have HSZ : Hid _ := Size_calls (vC f g.mf g.off sog sbg) g.off g.opts.length g.body.length wr (vb_lens hbo.row hbb.row (by omega))
        have hck : chk g.off g.opts.length g.body.length = 0 := chk_is ⟨hfo.1, hfo.2, hok.opt.1, hok.opt.2, by have := hok.fit; omega⟩
        rw [hck] at HSZ
        simp only [if_true] at HSZ
        obtain ⟨sz, hsz'⟩ : ∃ sz : Nat, sz = 20 + g.opts.length + g.body.length := ⟨_, rfl⟩
        rw [show (20 + (g.opts.length : Int) + (g.body.length : Int)) = (sz : Int) by omega] at HSZ
        have hsm : sz ≤ m := by have := hok.fit; omega
        have hbl1 : (bodies (L.take k)).length + g.body.length ≤ 1000000 := by
          have h1 := bodies_take_le L (k + 1)
          rw [take_at' L k hg, bodies_push, List.length_append, HBOD.out] at h1
          omega
        have HTK : Hid (bodies (L.take (k + 1)) = bodies (L.take k) ++ g.body) := by show _ = _; rw [take_at' L k hg, bodies_push]
        have HAT : Hid _ := hat
        have HOB : Hid (OB X1.heap.size X1 wr _ (bodies (L.take k))) := hob.out
        have HBBG : Hid (BS (fun b => w2.heap.size ≤ b) X1 sbg g.body) := hbb
        have hpl := hok.pl
        have hmid := hok.mid
        rw [HN.out] at hmid
        obtain ⟨d, hd⟩ : ∃ d : Nat, g.off - off = (d : Int) := ⟨(g.off - off).toNat, by omega⟩
        rw [hd] at hpl
        have hbl2 : (bodies (L.take k)).length ≤ 70000 := by have := bodies_take_le L k; rw [HBOD.out] at this; omega
        generalize hbl : (bodies (L.take k)).length = bl at *
        have HBLE : Hid _ := hbl
        have HMID : Hid _ := hmid
        have hd2 : d ≤ 8191 := by omega
        subst esb
        clear hat hob hok hfo hbo hbb hck hbl hmid

        go_wp2_with first
          | ((with_reducible show wpList _ _ _ ({ dst := _, op := Op.load 27 (Operand.tmp 37), type := _, pos := _, after := _, guard := _ } :: _) _ _); refine armL (.tmp 37) 27 rfl rfl rfl HLV.out ?_)
        refine Calls.mono HSZ.out ?_
        rintro e w5 ⟨rfl, hb5⟩
        have HB5 : Hid (Below X1.heap.size X1 w5) := HOB.out.bel.trans (hb5.mono hsz)
        have HOB5 : Hid (OB X1.heap.size X1 w5 _ (bodies (L.take k))) := HOB.out.below hsz hb5
        have hsz5 : X1.heap.size ≤ w5.heap.size := Nat.le_trans hsz hb5.size
        have hup : ∀ x : Hi w5, Below X1.heap.size X1 x.W := fun x => HB5.out.trans (x.below.mono HB5.out.size)
        have g3 : ∀ x : Hi w5, x.W.cell? ⟨bk, k * 17 + 3, none⟩ = some (.bool g.mf) := fun x => (HAT.out _ (hup x)).2.1
        have g4 : ∀ x : Hi w5, x.W.cell? ⟨bk, k * 17 + 4, none⟩ = some (.int .i64 g.off) := fun x => (HAT.out _ (hup x)).2.2.1
        have g16 : ∀ x : Hi w5, x.W.cell? ⟨bk, k * 17 + 16, none⟩ = some (.slice ag g.body.length cg) := fun x => (HAT.out _ (hup x)).2.2.2
        have v4 : ∀ x : Hi w5, x.W.cell? ⟨w.heap.size, 4, none⟩ = some (.int .i64 off) := fun x => vb4 (blk_on HVB.out (hup x))
        have HUP : Hid _ := hup
        clear hb5 HSZ HLV HOB hsz hup
        have q1 : ¬ m < sz := by omega
        have q1' : decide ((m : Int) < (sz : Int)) = false := by simp; omega
        have w58 : IntKind.i64.wrap (g.off - off) = (d : Int) := by rw [hd]; exact wrapi64 _ (by omega)
        have w59 : IntKind.i64.wrap (8 * (d : Int)) = (bl : Int) := by rw [hpl]; exact wrapi64 _ (by omega)
        have q62 : ((bl : Int) != (bl : Int)) = false := by simp
        obtain ⟨N1, hN1⟩ : ∃ N1 : Nat, N = N1 + 1 := ⟨N - 1, by omega⟩
        have w68 : IntKind.i64.wrap ((N : Int) - 1) = (N1 : Int) := by rw [show (N : Int) - 1 = (N1 : Int) by omega]; exact wrapi64 _ (by omega)
        have hki : (k : Int) < (N : Int) := by omega
        obtain ⟨qd, hqd⟩ : ∃ qd : Nat, (m : Int) - (sz : Int) = (qd : Int) := ⟨m - sz, by omega⟩
        have w73 : IntKind.i64.wrap ((m : Int) - (sz : Int)) = (qd : Int) := by rw [hqd]; exact wrapi64 _ (by omega)
        generalize hgo : g.off = goff at *
        generalize hgm : g.mf = gmf at *
        generalize hgb : g.body.length = gbl at *
        have HN1 : Hid _ := hN1
        have HHD : Hid _ := hd
        have HPL : Hid _ := hpl
        have HQD : Hid _ := hqd
        have HSZE : Hid _ := hsz'
        clear hgo hgm hd hpl hqd hN1 hsz'
        by_cases hmid : k < N1
        · obtain ⟨mm1, mm2, mm3⟩ := HMID.out (by have := HN1.out; omega)
          subst mm1
          have q8 : decide (8 ≤ qd) = false := by simp; have := HQD.out; have := HSZE.out; omega
          have q8i : decide ((8 : Int) ≤ (qd : Int)) = false := by simp; have := HQD.out; have := HSZE.out; omega
          have q8n : ¬ 8 ≤ qd := by have := HQD.out; have := HSZE.out; omega
          have q91 : ((gbl : Int) % 8 != 0) = false := by have : (gbl : Int) % 8 = 0 := by omega
                                                          simp [this]
          have hmi : (k : Int) < (N1 : Int) := by omega
          clear HMID mm2 mm3
          go_wp2_with fail
          refine wp_region_hi (by kernel_rfl) (by kernel_rfl) ?_
          repeat (first | go_big_quiet_skip | (go_big_quiet_want; go_big_quiet_op; first | go_big_quiet_on | go_big_quiet_call (fail)))
          refine wpQuiet_nil ?_
          intro _ hw
          obtain ⟨y, rfl⟩ := hw
          have hBy := HUP.out y
          have d16 := g16 y
          obtain ⟨bv', wy, hrun, hob', hs', _⟩ := (HOB5.out.below hsz5 y.below).app (Nat.le_trans hsz5 y.below.size) ((HBBG.out.on hBy).bytes) (by rw [HBLE.out, hgb]; exact hbl1) 25
          have HRUN : Hid _ := hrun
          have HOBN : Hid (OB X1.heap.size X1 wy bv' (bodies (L.take (k + 1)))) := by show OB _ _ _ _ _; rw [HTK.out]; exact hob'
          clear hrun hob' g3 g4 g16 v4 HOB5 HBBG HAT HUP w58 w59 w68 w73 q62
          go_wp2_with (at_builtin; refine wpList_append_run rfl _ _ _ _ rfl rfl rfl HRUN.out ?_; clear HRUN)
          exact ⟨⟨k + 1, by omega, by simp, HOBN.out, hs'⟩, by simp [intOf]; omega⟩
        · have hmi : ¬ k < N1 := hmid
          clear HMID
          go_wp2_with fail
          refine wp_region_hi (by kernel_rfl) (by kernel_rfl) ?_
          repeat (first | go_big_quiet_skip | (go_big_quiet_want; go_big_quiet_op; first | go_big_quiet_on | go_big_quiet_call (fail)))
          refine wpQuiet_nil ?_
          intro _ hw
          obtain ⟨y, rfl⟩ := hw
          have hBy := HUP.out y
          have d16 := g16 y
          obtain ⟨bv', wy, hrun, hob', hs', _⟩ := (HOB5.out.below hsz5 y.below).app (Nat.le_trans hsz5 y.below.size) ((HBBG.out.on hBy).bytes) (by rw [HBLE.out, hgb]; exact hbl1) 25
          have HRUN : Hid _ := hrun
          have HOBN : Hid (OB X1.heap.size X1 wy bv' (bodies (L.take (k + 1)))) := by show OB _ _ _ _ _; rw [HTK.out]; exact hob'
          clear hrun hob' g3 g4 g16 v4 HOB5 HBBG HAT HUP w58 w59 w68 w73 q62
          go_wp2_with (at_builtin; refine wpList_append_run rfl _ _ _ _ rfl rfl rfl HRUN.out ?_; clear HRUN)
          exact ⟨⟨k + 1, by omega, by simp, HOBN.out, hs'⟩, by simp [intOf]; omega⟩
      · have hkN : k = N := by omega
        obtain ⟨N1, hN1⟩ : ∃ N1 : Nat, N = N1 + 1 := ⟨N - 1, by omega⟩
        obtain ⟨g, hg⟩ : ∃ g, L[N1]? = some g := ⟨L[N1]'(by rw [HN.out]; omega), by simp⟩
        obtain ⟨bk, sog, sbg, ag, cg, ea, hbk, esb, hbo, hbb, hat⟩ := row_at HR.out hg
        subst ea
        have hlast := (HFO.out N1 g hg).last (by rw [HN.out]; omega)
        have hbody : bodies (L.take k) = b := by rw [List.take_of_length_le (by rw [HN.out]; omega), HBOD.out]
        have hob1 := hob.out
        rw [hbody] at hob1
        have hBw := hob1.bel
        have hfit : Fit b := HQX.out.fit
        have hup : ∀ x : Hi wr, Below X1.heap.size X1 x.W := fun x => hBw.trans (x.below.mono hBw.size)
        have g3 : ∀ x : Hi wr, x.W.cell? ⟨bk, N1 * 17 + 3, none⟩ = some (.bool mf) := fun x => by rw [← hlast]; exact (hat _ (hup x)).2.1
        have v3 : ∀ x : Hi wr, x.W.cell? ⟨w.heap.size, 3, none⟩ = some (.bool mf) := fun x => vb3 (blk_on HVB.out (hup x))
        obtain ⟨a3, c3, hsb1⟩ : ∃ a c, sb1 = .slice a b.length c := by obtain ⟨_, _, a, cap, e, _⟩ := HQX.out; exact ⟨_, _, e⟩
        have v16 : ∀ x : Hi wr, x.W.cell? ⟨w.heap.size, 16, none⟩ = some (.slice a3 b.length c3) := fun x => by rw [vb16 (blk_on HVB.out (hup x)), hsb1]
        have t1 : ∀ x : Hi wr, (convert 25 9 (.slice ab (bodies (L.take k)).length cb)).run Try.prog x.W = .ok (.string (strOfNums b)) x.W := fun x => by rw [hbody]; exact Hi.text ((hob1.row hfit (by omega)).bytes) x
        have t2 : ∀ x : Hi wr, (convert 25 9 (.slice a3 b.length c3)).run Try.prog x.W = .ok (.string (strOfNums b)) x.W := fun x => by rw [← hsb1]; exact (HQX.out.on (hup x)).bytes.text
        have HUP : Hid (∀ x : Hi wr, Below w.heap.size w x.W) := fun x => HBX1.out.trans ((hup x).mono HBX1.out.size)
        have hNi : ¬ k < N := hlt
        have hNpi : (0 : Int) < (N : Int) := by omega
        have w109 : IntKind.i64.wrap ((N : Int) - 1) = (N1 : Int) := by rw [show (N : Int) - 1 = (N1 : Int) by omega]; exact wrapi64 _ (by omega)
        have hi1 : N1 < N := by omega
        have HALX : Hid (∀ x : Hi wr, Calls Try.prog 16 #[] x.W fun e w' => e = .returned (.bool true) ∧ Below x.W.heap.size x.W w') := fun x => HAL.out x.W
        clear hob hob1 hat hbo hbb hup hlast hfit hBw hN1 hkN hsb1 esb hlt
        generalize (bodies (L.take k)).length = bl at *
        generalize strOfNums b = SS at *
        generalize b.length = nb at *
        go_wp2_with fail
        refine wp_region_hi (by kernel_rfl) (by kernel_rfl) ?_
        repeat (first | go_big_quiet_skip | (go_big_quiet_want; go_big_quiet_op; first | go_big_quiet_on | go_big_quiet_call (first | (go_at_call 16; with_reducible exact Hi.calls (HALX.out _)))))
        refine wpQuiet_nil ?_
        intro _ hw
        obtain ⟨y, rfl⟩ := hw
        go_wp2
        go_ret
        exact ⟨rfl, HUP.out y⟩
  · have hout : outL f.df mf off o b mtu = [] := by unfold outL; rw [if_neg hE]
    rw [hout] at hr1
    obtain ⟨a1, c1, e1⟩ := hr1.slc
    subst e1
    have q1 : (refE f.df mf off o b mtu != 0) = true := by simpa using hE
    generalize refE f.df mf off o b mtu = E at *
    clear hr1 hout hE HVB HQX HQ2 HBX hB1 HB2
    simp only [List.length_nil]
    go_wp2_with fail
    refine Calls.mono (HAL.out _) ?_
    rintro e X8 ⟨rfl, hb8⟩
    have HB8 : Hid (Below w.heap.size w X8) := HBX1.out.trans (hb8.mono HBX1.out.size)
    clear hb8
    go_wp2
    go_ret
    exact ⟨rfl, HB8.out⟩
end

theorem splitAll_open {H : Type} {enc : TypeId × Value → H} {W : World} {base : Nat} (v0 v1 : Value) {d0 d1 : DataW H} {p0 p1 : List MemPlace}
    (o0 : Value.okWide Try.prog W .any base 27 v0) (h0 : DataW.Trod enc Try.prog W 0 (fun _ => true) true 27 v0 d0 p0) (z0 : ∀ k ∈ d0.weights Try.prog 27, k ≤ reachBytes)
    (o1 : Value.okWide Try.prog W .any base 3 v1) (h1 : DataW.Trod enc Try.prog W 0 (fun _ => true) true 3 v1 d1 p1) (z1 : ∀ k ∈ d1.weights Try.prog 3, k ≤ reachBytes) :
    Calls Try.prog 5 #[v0, v1] W fun e w' => e = .returned (.bool true) ∧ Below W.heap.size W w' := by
  obtain ⟨f, mf, off, so, sb, opts, body, rfl, hf, hr1, hr2, ho⟩ := open_dg h0 z0
  obtain ⟨k, rfl, _, _, wk⟩ := open_int Try.underlying3 o1 h1
  exact splitAll_walk f mf off so sb opts body k W hr1 hr2 ho (bounds_i64 wk)

end Go.Proofs.Ytackllcfnlhkpaa
