/-
  The statement SplitsixAll.
-/
import Derived.Test.YtcllcinekohklaaXe3
namespace Go.Proofs.Ytcllcinekohklaa
open Go Go.RowKit
set_option linter.unusedVariables false
set_option linter.unusedSimpArgs false

open Go.ChangeShapes Go.WideShapes Go.ChangeAt
theorem ld_bool {W : World} {p : Addr} {x : Bool} (h : W.cell? p = some (.bool x)) : (Instr.loadAt 4 (.pointer (some p))).run Try.prog W = .ok (.bool x) W := by
  simp [Instr.loadAt, go_sem, h]
theorem ld_u32 {W : World} {p : Addr} {x : Int} (h : W.cell? p = some (.int .u32 x)) : (Instr.loadAt 22 (.pointer (some p))).run Try.prog W = .ok (.int .u32 x) W := by
  simp [Instr.loadAt, go_sem, h]
theorem OB.only {base : Nat} {w wx wy : World} {v : Value} {zs : List Int} {b : Nat} {c : Array Value} {T : TypeId} (h : OB base w wx v zs) (hT : T ≠ 5) (hb : wx.heap[b]? = some (.cells c T)) (hlo : base ≤ b) (ho : Only b wx wy) : OB base w wy v zs := by
  refine ⟨own_same h.own (fun k hk => ho.other k (fun e => ?_)), h.bel.trans (ho.below hlo)⟩
  subst e
  rcases h.own.2 with ⟨rfl, _⟩ | ⟨g, cap, cur, rfl, _, hg, _⟩
  · simp [Value.ownBlock] at hk
  · simp [Value.ownBlock] at hk
    subst hk
    rw [hb] at hg
    simp at hg
    exact hT hg.2

section
variable (f : F6) (g : G6) (vh vb : Value) (hs : Opts) (body : List Int) (mtu id : Int) (w : World)
set_option maxHeartbeats 8000000 in
set_option maxRecDepth 100000 in
theorem splitsixAll_walk (hf : AdOk f) (h : D6 (fun b => b < w.heap.size) w f vh vb hs body) (hmt : -9223372036854775808 ≤ mtu ∧ mtu ≤ 9223372036854775807) :
    Calls Try.prog 5 #[VV f g vh vb, .int .i64 mtu, .int .u32 id] w fun e w' => e = .returned (.bool true) ∧ Below w.heap.size w w' := by
  obtain ⟨w0, hw0⟩ : ∃ w0, w0 = w.alloc (BV f g vh vb) := ⟨_, rfl⟩
  have hb0 : w0.heap[w.heap.size]? = some (BV f g vh vb) := by rw [hw0]; exact blk_new w (BV f g vh vb)
  have hB0 : Below w.heap.size w w0 := by rw [hw0]; exact (Below.refl w.heap.size w).alloc (Nat.le_refl _) (BV f g vh vb)
  have HB0 : Hid (w0.heap[w.heap.size]? = some (BV f g vh vb)) := hb0
  have HBB : Hid (Below w.heap.size w w0) := hB0
  have HD : Hid (D6 (fun b => b < w.heap.size) w f vh vb hs body) := h
  have HAW : Hid (∀ X, Calls Try.prog 15 #[] X fun e w' => e = .returned (.bool true) ∧ Below X.heap.size X w') := fun X => awake_calls X
  have HAD : Hid (AdOk f) := hf
  have hW := hw0.symm
  clear hb0 hB0 h hw0 hf
  go_enter Try.func5, Try.ntmps5
  go_wp2_with fail
  refine Calls.mono (HAW.out _) ?_
  rintro e w1 ⟨rfl, hb1⟩
  have hv1 := blk_on HB0.out hb1
  have HLD : Hid _ := vb_load hv1
  have HV1 : Hid (w1.heap[w.heap.size]? = some (BV f g vh vb)) := hv1
  have hB1 : Below w.heap.size w w1 := HBB.out.trans (hb1.mono HBB.out.size)
  have HB1 : Hid (Below w.heap.size w w1) := hB1
  have hD1 := HD.out.on hB1
  clear hb1 HB0 HBB HAW hW hv1
  cases he : (fragP f hs g body mtu id).2 with
  | none =>
    have HSP : Hid _ := Split_yes g mtu id hD1 he
    obtain ⟨HOK, hbod, hNp, hk0, hm1, hm2⟩ := fragP_all he
    have HFO : Hid _ := HOK
    have HLL : Hid _ := fragP_len f hs g body mtu id
    have HBOD : Hid _ := hbod
    have hbl : body.length ≤ 70000 := by have := (ck_zero hk0).2; omega
    have hgo := ck_off hk0
    have HDW : Hid (D6 (fun b => b < w.heap.size) w1 f vh vb hs body) := hD1
    clear HOK hbod hk0 hD1 he hB1
    generalize (fragP f hs g body mtu id).1 = L at *
    go_wp2_with first
      | ((with_reducible show wpList _ _ _ ({ dst := _, op := Op.load 28 (Operand.tmp 3), type := _, pos := _, after := _, guard := _ } :: _) _ _); refine armL (.tmp 3) 28 rfl rfl rfl HLD.out ?_)
    refine Calls.mono HSP.out ?_
    rintro e X1 ⟨v1, rfl, hr1, hX1⟩
    obtain ⟨a1, c1, e1⟩ := hr1.slc
    subst e1
    have HR : Hid (RowV f hs w1.heap.size (fun b => w1.heap.size ≤ b) X1 (.slice a1 L.length c1) L) := hr1
    have HX1 : Hid (Below w.heap.size w X1) := HB1.out.trans (hX1.mono HB1.out.size)
    have HVX : Hid (X1.heap[w.heap.size]? = some (BV f g vh vb)) := blk_on HV1.out hX1
    have HDX : Hid (D6 (fun b => b < w.heap.size) X1 f vh vb hs body) := HDW.out.on hX1
    obtain ⟨a3, c3, hvb⟩ : ∃ a c, vb = .slice a body.length c := by obtain ⟨_, _, a, cap, e, _⟩ := HDW.out.bd.row; exact ⟨_, _, e⟩
    obtain ⟨N1, hN⟩ : ∃ N1, L.length = N1 + 1 := ⟨L.length - 1, by omega⟩
    have HN : Hid _ := hN
    rw [hN]
    obtain ⟨m, rfl⟩ : ∃ m : Nat, mtu = m := ⟨mtu.toNat, by omega⟩
    have hN1 : N1 ≤ 1000000000 := by have := HLL.out; omega
    subst hvb
    clear hN hNp hr1 hX1 HSP HLD HV1 HDW
    obtain ⟨nb, hnb⟩ : ∃ nb, body.length = nb := ⟨_, rfl⟩
    have HNB : Hid (body.length = nb) := hnb
    rw [hnb] at hbl HVX HDX ⊢
    clear hnb
    have w30 : IntKind.i64.wrap (((N1 + 1 : Nat) : Int) - 1) = (N1 : Int) := by rw [show ((N1 + 1 : Nat) : Int) - 1 = (N1 : Int) by omega]; exact wrapi64 _ (by omega)
    generalize hNN : N1 + 1 = N at *
    have HNN : Hid _ := hNN
    clear hNN
    go_wp2_with fail
    go_loopw [9, 10] (fun bv i wr => ∃ k : Nat, k ≤ N ∧ i = .int .i64 k ∧ Hid (OB X1.heap.size X1 wr bv (bodies (L.take k))) ∧ X1.heap.size ≤ wr.heap.size) (fun _ i _ => N - (intOf i).toNat)
    case atStart => exact ⟨0, Nat.zero_le _, rfl, by show OB _ _ _ _ _; simp only [List.take_zero]; exact OB.nil X1 _, Nat.le_refl _⟩
    case round =>
      obtain ⟨k, hk, rfl, hob, hsz0⟩ := hrel
      obtain ⟨ab, cb, hbv⟩ := hob.out.slc
      subst hbv
      by_cases hlt : k < N
      · obtain ⟨x, hg⟩ : ∃ x, L[k]? = some x := ⟨L[k]'(by rw [HN.out]; exact hlt), by simp⟩
        obtain ⟨x0, hg0⟩ : ∃ x, L[0]? = some x := ⟨L[0]'(by rw [HN.out]; omega), by simp⟩
        obtain ⟨bk, vhg, vbg, ag, cg, ea, hbk, _, esb, hd, hat⟩ := row_at HR.out hg
        obtain ⟨bk0, _, _, _, _, ea0, _, _, _, _, hat0⟩ := row_at HR.out hg0
        subst ea
        subst esb
        obtain rfl : bk0 = bk := by injection ea0 with ea0; injection ea0 with ea0; exact ea0.symm
        have hok := HFO.out k x hg
        have hok0 := HFO.out 0 x0 hg0
        have hfit := hok.fit
        have hBw := hob.out.bel
        have HLV : Hid _ := (hat _ hBw).1
        obtain ⟨w3, hst3, hbx3, hB3, hs3⟩ := vb_new wr f x.g (vh := vhg) (vb := .slice ag x.body.length cg) hd.hd.one rfl
        unfold zeroV at hst3
        have HST : Hid _ := hst3
        have HLX : Hid _ := vb_load hbx3
        have hB13 : Below X1.heap.size X1 w3 := hBw.trans (hB3.mono hBw.size)
        obtain ⟨sz, hsz⟩ : ∃ sz : Nat, ahead6 hs x.g.fr + x.body.length = sz := ⟨_, rfl⟩
        have HSZ : Hid _ := RSize_ok (hd.on hB13) hok.ck hsz
        rw [hsz] at hfit
        have hki : (k : Int) < (N : Int) := by omega
        have hkb : k ≤ 1000000000 := by have := HNN.out; omega
        have HBX3 : Hid (w3.heap[wr.heap.size]? = some (BV f x.g vhg (.slice ag x.body.length cg))) := hbx3
        have HB13 : Hid (Below X1.heap.size X1 w3) := hB13
        have HOB3 : Hid (OB X1.heap.size X1 w3 (.slice ab (bodies (L.take k)).length cb) (bodies (L.take k))) := hob.out.below hsz0 hB3
        have hs13 : X1.heap.size ≤ w3.heap.size := hB13.size
        have HDG : Hid (D6 (fun b => w1.heap.size ≤ b) X1 f vhg (.slice ag x.body.length cg) hs x.body) := hd
        have HAT0 : Hid _ := hat0
        have hpl := hok.pl
        have HMID : Hid _ := hok.mid
        have HLAST : Hid _ := hok.last
        have HMANY : Hid _ := hok.many
        have HMANY0 : Hid _ := hok0.many
        rw [HN.out] at HMID HLAST HMANY HMANY0
        have hxo := hok.off
        have hbl1 : (bodies (L.take k)).length + x.body.length ≤ 1000000 := by
          have h1 := bodies_take_le L (k + 1)
          rw [take_at' L k hg, bodies_push, List.length_append, HBOD.out, HNB.out] at h1
          omega
        have HTK : Hid (bodies (L.take (k + 1)) = bodies (L.take k) ++ x.body) := by show _ = _; rw [take_at' L k hg, bodies_push]
        have hbl2 : (bodies (L.take k)).length ≤ 70000 := by have := bodies_take_le L k; rw [HBOD.out, HNB.out] at this; omega
        obtain ⟨d, hdd⟩ : ∃ d : Nat, x.g.off - g.off = (d : Int) := ⟨(x.g.off - g.off).toNat, by omega⟩
        rw [hdd] at hpl
        have HBX0 : Hid (X1.heap.size ≤ wr.heap.size) := hsz0
        have HVW : Hid (w.heap.size < wr.heap.size) := by show _ < _; have := (Array.getElem?_eq_some_iff.1 HVX.out).1; omega
        clear hat hat0 hok hok0 hd hsz hst3 hbx3 hB3 hs3 hB13 hBw hob hg hg0 ea0
        generalize hbl : (bodies (L.take k)).length = bl at *
        have HBLE : Hid _ := hbl
        clear hbl
        go_wp2_with first
          | ((with_reducible show wpList _ _ _ ({ dst := _, op := Op.load 28 (Operand.tmp 37), type := _, pos := _, after := _, guard := _ } :: _) _ _); refine armL (.tmp 37) 28 rfl rfl rfl HLV.out ?_)
          | ((with_reducible show wpList _ _ _ ({ dst := _, op := Op.store 28 (Operand.tmp 11) (Operand.tmp 38), type := _, pos := _, after := _, guard := _ } :: _) _ _); refine armS (.tmp 11) (Operand.tmp 38) 28 rfl rfl rfl rfl HST.out ?_; simp only [Act.put])
          | ((with_reducible show wpList _ _ _ ({ dst := _, op := Op.load 28 (Operand.tmp 11), type := _, pos := _, after := _, guard := _ } :: _) _ _); refine armL (.tmp 11) 28 rfl rfl rfl HLX.out ?_)
        refine Calls.mono HSZ.out ?_
        rintro e w5 ⟨rfl, hb5⟩
        have hup : ∀ y : Hi w5, Below w3.heap.size w3 y.W := fun y => hb5.trans (y.below.mono hb5.size)
        have hupX : ∀ y : Hi w5, Below X1.heap.size X1 y.W := fun y => HB13.out.trans ((hup y).mono hs13)
        have b36 : ∀ y : Hi w5, y.W.cell? ⟨wr.heap.size, 36, none⟩ = some (.bool x.g.fr) := fun y => vb36 (blk_on HBX3.out (hup y))
        have b37 : ∀ y : Hi w5, y.W.cell? ⟨wr.heap.size, 37, none⟩ = some (.int .u32 x.g.id) := fun y => vb37 (blk_on HBX3.out (hup y))
        have b38 : ∀ y : Hi w5, y.W.cell? ⟨wr.heap.size, 38, none⟩ = some (.int .i64 x.g.off) := fun y => vb38 (blk_on HBX3.out (hup y))
        have b39 : ∀ y : Hi w5, y.W.cell? ⟨wr.heap.size, 39, none⟩ = some (.bool x.g.more) := fun y => vb39 (blk_on HBX3.out (hup y))
        have v38 : ∀ y : Hi w5, y.W.cell? ⟨w.heap.size, 38, none⟩ = some (.int .i64 g.off) := fun y => vb38 (blk_on HVX.out (hupX y))
        have v39 : ∀ y : Hi w5, y.W.cell? ⟨w.heap.size, 39, none⟩ = some (.bool g.more) := fun y => vb39 (blk_on HVX.out (hupX y))
        have r37 : ∀ y : Hi w5, y.W.cell? ⟨bk0, 37, none⟩ = some (.int .u32 x0.g.id) := fun y => by have := (HAT0.out _ (hupX y)).2.1; simpa using this
        have HUP : Hid _ := hup
        have HUPX : Hid _ := hupX
        have q1 : ¬ m < sz := by omega
        have q1' : decide ((m : Int) < (sz : Int)) = false := by simp; omega
        have w67 : (bl : Int) / 8 = (d : Int) := by omega
        have w68 : IntKind.i64.wrap (g.off + (d : Int)) = x.g.off := by rw [show g.off + (d : Int) = x.g.off by omega]; exact wrapi64 _ (by omega)
        clear hb5 HSZ HLV HST HLX HAT0 hup hupX hfit
        generalize hgo' : x.g.off = xo at *
        clear hgo' hdd hpl
        by_cases hone : N = 1
        · have qn : ¬ 1 < N := by omega
          have qn' : decide ((1 : Int) < (N : Int)) = false := by simp; omega
          clear hone
          go_wp2_with fail
          refine wp_region_hi (by kernel_rfl) (by kernel_rfl) ?_
          repeat (first | go_big_quiet_skip | (go_big_quiet_want; go_big_quiet_op; first | go_big_quiet_on | go_big_quiet_call (fail)))
          refine wpQuiet_nil ?_
          intro _ hw
          obtain ⟨y, rfl⟩ := hw
          have hBy := HUP.out y
          have hByX := HUPX.out y
          have d41 := vb41 (blk_on HBX3.out hBy)
          have hOBy := HOB3.out.below hs13 hBy
          obtain ⟨bv', wy, hrun, hob', hs', hkeep⟩ := hOBy.app (Nat.le_trans hs13 hBy.size) ((HDG.out.on hByX).bd.row.bytes) (by rw [HBLE.out]; exact hbl1) 26
          have HRUN : Hid _ := hrun
          have HOBN : Hid (OB X1.heap.size X1 wy bv' (bodies (L.take (k + 1)))) := by show OB _ _ _ _ _; rw [HTK.out]; exact hob'
          have HXY : Hid (wy.heap[wr.heap.size]? = some (BV f x.g vhg (.slice ag x.body.length cg))) := hkeep _ _ _ _ (by decide) (blk_on HBX3.out hBy)
          have HVY : Hid (wy.heap[w.heap.size]? = some (BV f g vh (.slice a3 nb c3))) := blk_on HVX.out hob'.bel
          clear hrun hob' hkeep hOBy hBy hByX b38 v38 v39 HUP HUPX HOB3 HBX3 HTK w67 w68 b36 b37 b39 r37
          go_wp2_with (at_builtin; refine wpList_append_run rfl _ _ _ _ rfl rfl rfl HRUN.out ?_; clear HRUN)
          clear d41
          refine region_mid (fun a0 a' w' => a' = (((((((((((((((a0.put (some 100) (.pointer (some ⟨w.heap.size, 41, none⟩))).put (some 101) ((.slice a3 nb c3))).put (some 102) (.pointer (some ⟨w.heap.size, 36, none⟩))).put (some 103) (.bool g.fr)).put (some 104) (.pointer (some ⟨w.heap.size, 37, none⟩))).put (some 105) (.int .u32 g.id)).put (some 106) (.pointer (some ⟨w.heap.size, 38, none⟩))).put (some 107) (.int .i64 g.off)).put (some 108) (.pointer (some ⟨w.heap.size, 39, none⟩))).put (some 109) (.bool g.more)).put (some 110) (.pointer (some ⟨wr.heap.size, 41, none⟩))).put (some 111) (.pointer (some ⟨wr.heap.size, 36, none⟩))).put (some 112) (.pointer (some ⟨wr.heap.size, 37, none⟩))).put (some 113) (.pointer (some ⟨wr.heap.size, 38, none⟩))).put (some 114) (.pointer (some ⟨wr.heap.size, 39, none⟩))) ∧ w'.heap[wr.heap.size]? = some (BV f g vhg (.slice a3 nb c3)) ∧ Only wr.heap.size wy w') ?_ ?_
          · refine wp_region_held (S := fun X => X.heap[w.heap.size]? = some (BV f g vh (.slice a3 nb c3))) (by kernel_rfl) ?_
            show wpAnyH _ _ _ _ _ 20 (Array.replicate 20 false) _ _
            have hs0 : wy.drew.heap[w.heap.size]? = some (BV f g vh (.slice a3 nb c3)) := HVY.out
            have hf0 : wy.drew.heap[wr.heap.size]? = some (BV f x.g vhg (.slice ag x.body.length cg)) := HXY.out
            refine take_one (i := 0) (d := some 100) (v := .pointer (some ⟨w.heap.size, 41, none⟩)) rfl rfl rfl (by kernel_rfl) (by kernel_rfl) (by kernel_rfl) (fun _ _ _ _ _ h => h.elim) (fun W hS => by kernel_rfl) hs0 ?_
            simp only [Act.put, List.setIfInBounds_toArray, List.set_cons_zero, List.set_cons_succ]
            refine take_one (i := 1) (d := some 101) (v := (.slice a3 nb c3)) rfl rfl rfl (by kernel_rfl) (by kernel_rfl) (by kernel_rfl) (fun _ _ _ _ _ h => h.elim) (fun W hS => ex_loadA (.tmp 100) 26 rfl rfl (ld_row (vb41 hS) ⟨_, _, _, rfl⟩)) hs0 ?_
            simp only [Act.put, List.setIfInBounds_toArray, List.set_cons_zero, List.set_cons_succ]
            refine take_one (i := 2) (d := some 102) (v := .pointer (some ⟨w.heap.size, 36, none⟩)) rfl rfl rfl (by kernel_rfl) (by kernel_rfl) (by kernel_rfl) (fun _ _ _ _ _ h => h.elim) (fun W hS => by kernel_rfl) hs0 ?_
            simp only [Act.put, List.setIfInBounds_toArray, List.set_cons_zero, List.set_cons_succ]
            refine take_one (i := 3) (d := some 103) (v := .bool g.fr) rfl rfl rfl (by kernel_rfl) (by kernel_rfl) (by kernel_rfl) (fun _ _ _ _ _ h => h.elim) (fun W hS => ex_loadA (.tmp 102) 4 rfl rfl (ld_bool (vb36 hS))) hs0 ?_
            simp only [Act.put, List.setIfInBounds_toArray, List.set_cons_zero, List.set_cons_succ]
            refine take_one (i := 4) (d := some 104) (v := .pointer (some ⟨w.heap.size, 37, none⟩)) rfl rfl rfl (by kernel_rfl) (by kernel_rfl) (by kernel_rfl) (fun _ _ _ _ _ h => h.elim) (fun W hS => by kernel_rfl) hs0 ?_
            simp only [Act.put, List.setIfInBounds_toArray, List.set_cons_zero, List.set_cons_succ]
            refine take_one (i := 5) (d := some 105) (v := .int .u32 g.id) rfl rfl rfl (by kernel_rfl) (by kernel_rfl) (by kernel_rfl) (fun _ _ _ _ _ h => h.elim) (fun W hS => ex_loadA (.tmp 104) 22 rfl rfl (ld_u32 (vb37 hS))) hs0 ?_
            simp only [Act.put, List.setIfInBounds_toArray, List.set_cons_zero, List.set_cons_succ]
            refine take_one (i := 6) (d := some 106) (v := .pointer (some ⟨w.heap.size, 38, none⟩)) rfl rfl rfl (by kernel_rfl) (by kernel_rfl) (by kernel_rfl) (fun _ _ _ _ _ h => h.elim) (fun W hS => by kernel_rfl) hs0 ?_
            simp only [Act.put, List.setIfInBounds_toArray, List.set_cons_zero, List.set_cons_succ]
            refine take_one (i := 7) (d := some 107) (v := .int .i64 g.off) rfl rfl rfl (by kernel_rfl) (by kernel_rfl) (by kernel_rfl) (fun _ _ _ _ _ h => h.elim) (fun W hS => ex_loadA (.tmp 106) 3 rfl rfl (ld_int (vb38 hS))) hs0 ?_
            simp only [Act.put, List.setIfInBounds_toArray, List.set_cons_zero, List.set_cons_succ]
            refine take_one (i := 8) (d := some 108) (v := .pointer (some ⟨w.heap.size, 39, none⟩)) rfl rfl rfl (by kernel_rfl) (by kernel_rfl) (by kernel_rfl) (fun _ _ _ _ _ h => h.elim) (fun W hS => by kernel_rfl) hs0 ?_
            simp only [Act.put, List.setIfInBounds_toArray, List.set_cons_zero, List.set_cons_succ]
            refine take_one (i := 9) (d := some 109) (v := .bool g.more) rfl rfl rfl (by kernel_rfl) (by kernel_rfl) (by kernel_rfl) (fun _ _ _ _ _ h => h.elim) (fun W hS => ex_loadA (.tmp 108) 4 rfl rfl (ld_bool (vb39 hS))) hs0 ?_
            simp only [Act.put, List.setIfInBounds_toArray, List.set_cons_zero, List.set_cons_succ]
            refine take_one (i := 10) (d := some 110) (v := .pointer (some ⟨wr.heap.size, 41, none⟩)) rfl rfl rfl (by kernel_rfl) (by kernel_rfl) (by kernel_rfl) (fun _ _ _ _ _ h => h.elim) (fun W hS => by kernel_rfl) hs0 ?_
            simp only [Act.put, List.setIfInBounds_toArray, List.set_cons_zero, List.set_cons_succ]
            have hf1 := vs41 hf0 (.slice a3 nb c3)
            have hs1 := blk_set_other hs0 (show w.heap.size ≠ wr.heap.size by have := HVW.out; omega) 41 (.slice a3 nb c3)
            refine all_one (i := 11) (by kernel_rfl) rfl rfl ?_
            refine wp_storeA (.tmp 110) (.tmp 101) 26 rfl rfl rfl rfl (st_row hf0 (show 41 < _ by rw [vC_len]; omega) ⟨_, _, _, rfl⟩) ⟨hs1, ?_⟩
            refine take_one (i := 12) (d := some 111) (v := .pointer (some ⟨wr.heap.size, 36, none⟩)) rfl rfl rfl (by kernel_rfl) (by kernel_rfl) (by kernel_rfl) (fun _ _ _ _ _ h => h.elim) (fun W hS => by kernel_rfl) hs1 ?_
            simp only [Act.put, List.setIfInBounds_toArray, List.set_cons_zero, List.set_cons_succ]
            have hf2 := vs36 hf1 g.fr
            have hs2 := blk_set_other hs1 (show w.heap.size ≠ wr.heap.size by have := HVW.out; omega) 36 (.bool g.fr)
            refine all_one (i := 13) (by kernel_rfl) rfl rfl ?_
            refine wp_storeA (.tmp 111) (.tmp 103) 4 rfl rfl rfl rfl (st_bool hf1 (show 36 < _ by rw [vC_len]; omega) g.fr) ⟨hs2, ?_⟩
            refine take_one (i := 14) (d := some 112) (v := .pointer (some ⟨wr.heap.size, 37, none⟩)) rfl rfl rfl (by kernel_rfl) (by kernel_rfl) (by kernel_rfl) (fun _ _ _ _ _ h => h.elim) (fun W hS => by kernel_rfl) hs2 ?_
            simp only [Act.put, List.setIfInBounds_toArray, List.set_cons_zero, List.set_cons_succ]
            have hf3 := vs37 hf2 g.id
            have hs3 := blk_set_other hs2 (show w.heap.size ≠ wr.heap.size by have := HVW.out; omega) 37 (.int .u32 g.id)
            refine all_one (i := 15) (by kernel_rfl) rfl rfl ?_
            refine wp_storeA (.tmp 112) (.tmp 105) 22 rfl rfl rfl rfl (st_u32 hf2 (show 37 < _ by rw [vC_len]; omega) g.id) ⟨hs3, ?_⟩
            refine take_one (i := 16) (d := some 113) (v := .pointer (some ⟨wr.heap.size, 38, none⟩)) rfl rfl rfl (by kernel_rfl) (by kernel_rfl) (by kernel_rfl) (fun _ _ _ _ _ h => h.elim) (fun W hS => by kernel_rfl) hs3 ?_
            simp only [Act.put, List.setIfInBounds_toArray, List.set_cons_zero, List.set_cons_succ]
            have hf4 := vs38 hf3 g.off
            have hs4 := blk_set_other hs3 (show w.heap.size ≠ wr.heap.size by have := HVW.out; omega) 38 (.int .i64 g.off)
            refine all_one (i := 17) (by kernel_rfl) rfl rfl ?_
            refine wp_storeA (.tmp 113) (.tmp 107) 3 rfl rfl rfl rfl (st_int hf3 (show 38 < _ by rw [vC_len]; omega) g.off) ⟨hs4, ?_⟩
            refine take_one (i := 18) (d := some 114) (v := .pointer (some ⟨wr.heap.size, 39, none⟩)) rfl rfl rfl (by kernel_rfl) (by kernel_rfl) (by kernel_rfl) (fun _ _ _ _ _ h => h.elim) (fun W hS => by kernel_rfl) hs4 ?_
            simp only [Act.put, List.setIfInBounds_toArray, List.set_cons_zero, List.set_cons_succ]
            have hf5 := vs39 hf4 g.more
            have hs5 := blk_set_other hs4 (show w.heap.size ≠ wr.heap.size by have := HVW.out; omega) 39 (.bool g.more)
            refine all_one (i := 19) (by kernel_rfl) rfl rfl ?_
            refine wp_storeA (.tmp 114) (.tmp 109) 4 rfl rfl rfl rfl (st_bool hf4 (show 39 < _ by rw [vC_len]; omega) g.more) ⟨hs5, ?_⟩
            refine wpAnyH_done (by kernel_rfl) ?_ _
            exact ⟨rfl, hf5, (((((((Only.refl wr.heap.size wy).drew).set 41 _).set 36 _).set 37 _).set 38 _).set 39 _)⟩
          · rintro a' w8 ⟨rfl, hbx8, hon8⟩
            simp only [Act.put, List.setIfInBounds_toArray, List.set_cons_zero, List.set_cons_succ]
            have hOB8 := HOBN.out.only (by decide) HXY.out HBX0.out hon8
            have HOB8 : Hid (OB X1.heap.size X1 w8 bv' (bodies (L.take (k + 1)))) := hOB8
            have HL11 : Hid _ := vb_load hbx8
            have HL3 : Hid _ := vb_load (blk_on HVX.out hOB8.bel)
            have hdv := HDX.out.on hOB8.bel
            have hdg := HDG.out.on hOB8.bel
            have HSM : Hid _ := RSame_eq (g := g) HAD.out (S := fun _ => True) (S' := fun b => b < w.heap.size) (w := w8) ⟨hdg.hd.mono (fun _ _ _ => trivial), hdv.bd.mono (fun _ _ _ => trivial), hdv.lab⟩ hdv
            have hs8 : X1.heap.size ≤ w8.heap.size := hOB8.bel.size
            clear hOB8 hdv hdg hbx8 hon8 HXY HVY HOBN
            go_wp2_with first
              | ((with_reducible show wpList _ _ _ ({ dst := _, op := Op.load 28 (Operand.tmp 11), type := _, pos := _, after := _, guard := _ } :: _) _ _); refine armL (.tmp 11) 28 rfl rfl rfl HL11.out ?_)
              | ((with_reducible show wpList _ _ _ ({ dst := _, op := Op.load 28 (Operand.tmp 3), type := _, pos := _, after := _, guard := _ } :: _) _ _); refine armL (.tmp 3) 28 rfl rfl rfl HL3.out ?_)
            refine Calls.mono HSM.out ?_
            rintro e w9 ⟨rfl, hb9⟩
            have HOB9 : Hid (OB X1.heap.size X1 w9 bv' (bodies (L.take (k + 1)))) := HOB8.out.below hs8 hb9
            have hs9 : X1.heap.size ≤ w9.heap.size := Nat.le_trans hs8 hb9.size
            clear hb9 HSM HL11 HL3 HOB8
            go_wp2
            exact ⟨⟨k + 1, by omega, by simp, HOB9.out, hs9⟩, by simp [intOf]; omega⟩
        · have qn : 1 < N := by omega
          have qn' : decide ((1 : Int) < (N : Int)) = true := by simp; omega
          obtain ⟨y1, y2⟩ := HMANY.out qn
          obtain ⟨y3, y4⟩ := HMANY0.out qn
          have b36' : ∀ y : Hi w5, y.W.cell? ⟨wr.heap.size, 36, none⟩ = some (.bool true) := fun y => by rw [b36 y, y1]
          have b37' : ∀ y : Hi w5, y.W.cell? ⟨wr.heap.size, 37, none⟩ = some (.int .u32 (hdG g id).id) := fun y => by rw [b37 y, y2]
          have r37' : ∀ y : Hi w5, y.W.cell? ⟨bk0, 37, none⟩ = some (.int .u32 (hdG g id).id) := fun y => by rw [r37 y, y4]
          clear b36 b37 r37 y1 y2 y3 y4
          generalize (hdG g id).id = ID at *
          by_cases hmid : k < N1
          · have y5 := (HMID.out (by have := HNN.out; omega)).1
            have b39' : ∀ y : Hi w5, y.W.cell? ⟨wr.heap.size, 39, none⟩ = some (.bool true) := fun y => by rw [b39 y, y5]
            have hmi : (k : Int) < (N1 : Int) := by omega
            clear b39 y5
            go_wp2_with fail
            refine wp_region_hi (by kernel_rfl) (by kernel_rfl) ?_
            repeat (first | go_big_quiet_skip | (go_big_quiet_want; go_big_quiet_op; first | go_big_quiet_on | go_big_quiet_call (fail)))
            refine wpQuiet_nil ?_
            intro _ hw
            obtain ⟨y, rfl⟩ := hw
            have hBy := HUP.out y
            have hByX := HUPX.out y
            have d41 := vb41 (blk_on HBX3.out hBy)
            have hOBy := HOB3.out.below hs13 hBy
            obtain ⟨bv', wy, hrun, hob', hs', hkeep⟩ := hOBy.app (Nat.le_trans hs13 hBy.size) ((HDG.out.on hByX).bd.row.bytes) (by rw [HBLE.out]; exact hbl1) 26
            have HRUN : Hid _ := hrun
            have HOBN : Hid (OB X1.heap.size X1 wy bv' (bodies (L.take (k + 1)))) := by show OB _ _ _ _ _; rw [HTK.out]; exact hob'
            have HXY : Hid (wy.heap[wr.heap.size]? = some (BV f x.g vhg (.slice ag x.body.length cg))) := hkeep _ _ _ _ (by decide) (blk_on HBX3.out hBy)
            have HVY : Hid (wy.heap[w.heap.size]? = some (BV f g vh (.slice a3 nb c3))) := blk_on HVX.out hob'.bel
            clear hrun hob' hkeep hOBy hBy hByX b38 v38 v39 HUP HUPX HOB3 HBX3 HTK w67 w68 b36' b37' b39' r37'
            go_wp2_with (at_builtin; refine wpList_append_run rfl _ _ _ _ rfl rfl rfl HRUN.out ?_; clear HRUN)
            clear d41
            refine region_mid (fun a0 a' w' => a' = (((((((((((((((a0.put (some 100) (.pointer (some ⟨w.heap.size, 41, none⟩))).put (some 101) ((.slice a3 nb c3))).put (some 102) (.pointer (some ⟨w.heap.size, 36, none⟩))).put (some 103) (.bool g.fr)).put (some 104) (.pointer (some ⟨w.heap.size, 37, none⟩))).put (some 105) (.int .u32 g.id)).put (some 106) (.pointer (some ⟨w.heap.size, 38, none⟩))).put (some 107) (.int .i64 g.off)).put (some 108) (.pointer (some ⟨w.heap.size, 39, none⟩))).put (some 109) (.bool g.more)).put (some 110) (.pointer (some ⟨wr.heap.size, 41, none⟩))).put (some 111) (.pointer (some ⟨wr.heap.size, 36, none⟩))).put (some 112) (.pointer (some ⟨wr.heap.size, 37, none⟩))).put (some 113) (.pointer (some ⟨wr.heap.size, 38, none⟩))).put (some 114) (.pointer (some ⟨wr.heap.size, 39, none⟩))) ∧ w'.heap[wr.heap.size]? = some (BV f g vhg (.slice a3 nb c3)) ∧ Only wr.heap.size wy w') ?_ ?_
            · refine wp_region_held (S := fun X => X.heap[w.heap.size]? = some (BV f g vh (.slice a3 nb c3))) (by kernel_rfl) ?_
              show wpAnyH _ _ _ _ _ 20 (Array.replicate 20 false) _ _
              have hs0 : wy.drew.heap[w.heap.size]? = some (BV f g vh (.slice a3 nb c3)) := HVY.out
              have hf0 : wy.drew.heap[wr.heap.size]? = some (BV f x.g vhg (.slice ag x.body.length cg)) := HXY.out
              refine take_one (i := 0) (d := some 100) (v := .pointer (some ⟨w.heap.size, 41, none⟩)) rfl rfl rfl (by kernel_rfl) (by kernel_rfl) (by kernel_rfl) (fun _ _ _ _ _ h => h.elim) (fun W hS => by kernel_rfl) hs0 ?_
              simp only [Act.put, List.setIfInBounds_toArray, List.set_cons_zero, List.set_cons_succ]
              refine take_one (i := 1) (d := some 101) (v := (.slice a3 nb c3)) rfl rfl rfl (by kernel_rfl) (by kernel_rfl) (by kernel_rfl) (fun _ _ _ _ _ h => h.elim) (fun W hS => ex_loadA (.tmp 100) 26 rfl rfl (ld_row (vb41 hS) ⟨_, _, _, rfl⟩)) hs0 ?_
              simp only [Act.put, List.setIfInBounds_toArray, List.set_cons_zero, List.set_cons_succ]
              refine take_one (i := 2) (d := some 102) (v := .pointer (some ⟨w.heap.size, 36, none⟩)) rfl rfl rfl (by kernel_rfl) (by kernel_rfl) (by kernel_rfl) (fun _ _ _ _ _ h => h.elim) (fun W hS => by kernel_rfl) hs0 ?_
              simp only [Act.put, List.setIfInBounds_toArray, List.set_cons_zero, List.set_cons_succ]
              refine take_one (i := 3) (d := some 103) (v := .bool g.fr) rfl rfl rfl (by kernel_rfl) (by kernel_rfl) (by kernel_rfl) (fun _ _ _ _ _ h => h.elim) (fun W hS => ex_loadA (.tmp 102) 4 rfl rfl (ld_bool (vb36 hS))) hs0 ?_
              simp only [Act.put, List.setIfInBounds_toArray, List.set_cons_zero, List.set_cons_succ]
              refine take_one (i := 4) (d := some 104) (v := .pointer (some ⟨w.heap.size, 37, none⟩)) rfl rfl rfl (by kernel_rfl) (by kernel_rfl) (by kernel_rfl) (fun _ _ _ _ _ h => h.elim) (fun W hS => by kernel_rfl) hs0 ?_
              simp only [Act.put, List.setIfInBounds_toArray, List.set_cons_zero, List.set_cons_succ]
              refine take_one (i := 5) (d := some 105) (v := .int .u32 g.id) rfl rfl rfl (by kernel_rfl) (by kernel_rfl) (by kernel_rfl) (fun _ _ _ _ _ h => h.elim) (fun W hS => ex_loadA (.tmp 104) 22 rfl rfl (ld_u32 (vb37 hS))) hs0 ?_
              simp only [Act.put, List.setIfInBounds_toArray, List.set_cons_zero, List.set_cons_succ]
              refine take_one (i := 6) (d := some 106) (v := .pointer (some ⟨w.heap.size, 38, none⟩)) rfl rfl rfl (by kernel_rfl) (by kernel_rfl) (by kernel_rfl) (fun _ _ _ _ _ h => h.elim) (fun W hS => by kernel_rfl) hs0 ?_
              simp only [Act.put, List.setIfInBounds_toArray, List.set_cons_zero, List.set_cons_succ]
              refine take_one (i := 7) (d := some 107) (v := .int .i64 g.off) rfl rfl rfl (by kernel_rfl) (by kernel_rfl) (by kernel_rfl) (fun _ _ _ _ _ h => h.elim) (fun W hS => ex_loadA (.tmp 106) 3 rfl rfl (ld_int (vb38 hS))) hs0 ?_
              simp only [Act.put, List.setIfInBounds_toArray, List.set_cons_zero, List.set_cons_succ]
              refine take_one (i := 8) (d := some 108) (v := .pointer (some ⟨w.heap.size, 39, none⟩)) rfl rfl rfl (by kernel_rfl) (by kernel_rfl) (by kernel_rfl) (fun _ _ _ _ _ h => h.elim) (fun W hS => by kernel_rfl) hs0 ?_
              simp only [Act.put, List.setIfInBounds_toArray, List.set_cons_zero, List.set_cons_succ]
              refine take_one (i := 9) (d := some 109) (v := .bool g.more) rfl rfl rfl (by kernel_rfl) (by kernel_rfl) (by kernel_rfl) (fun _ _ _ _ _ h => h.elim) (fun W hS => ex_loadA (.tmp 108) 4 rfl rfl (ld_bool (vb39 hS))) hs0 ?_
              simp only [Act.put, List.setIfInBounds_toArray, List.set_cons_zero, List.set_cons_succ]
              refine take_one (i := 10) (d := some 110) (v := .pointer (some ⟨wr.heap.size, 41, none⟩)) rfl rfl rfl (by kernel_rfl) (by kernel_rfl) (by kernel_rfl) (fun _ _ _ _ _ h => h.elim) (fun W hS => by kernel_rfl) hs0 ?_
              simp only [Act.put, List.setIfInBounds_toArray, List.set_cons_zero, List.set_cons_succ]
              have hf1 := vs41 hf0 (.slice a3 nb c3)
              have hs1 := blk_set_other hs0 (show w.heap.size ≠ wr.heap.size by have := HVW.out; omega) 41 (.slice a3 nb c3)
              refine all_one (i := 11) (by kernel_rfl) rfl rfl ?_
              refine wp_storeA (.tmp 110) (.tmp 101) 26 rfl rfl rfl rfl (st_row hf0 (show 41 < _ by rw [vC_len]; omega) ⟨_, _, _, rfl⟩) ⟨hs1, ?_⟩
              refine take_one (i := 12) (d := some 111) (v := .pointer (some ⟨wr.heap.size, 36, none⟩)) rfl rfl rfl (by kernel_rfl) (by kernel_rfl) (by kernel_rfl) (fun _ _ _ _ _ h => h.elim) (fun W hS => by kernel_rfl) hs1 ?_
              simp only [Act.put, List.setIfInBounds_toArray, List.set_cons_zero, List.set_cons_succ]
              have hf2 := vs36 hf1 g.fr
              have hs2 := blk_set_other hs1 (show w.heap.size ≠ wr.heap.size by have := HVW.out; omega) 36 (.bool g.fr)
              refine all_one (i := 13) (by kernel_rfl) rfl rfl ?_
              refine wp_storeA (.tmp 111) (.tmp 103) 4 rfl rfl rfl rfl (st_bool hf1 (show 36 < _ by rw [vC_len]; omega) g.fr) ⟨hs2, ?_⟩
              refine take_one (i := 14) (d := some 112) (v := .pointer (some ⟨wr.heap.size, 37, none⟩)) rfl rfl rfl (by kernel_rfl) (by kernel_rfl) (by kernel_rfl) (fun _ _ _ _ _ h => h.elim) (fun W hS => by kernel_rfl) hs2 ?_
              simp only [Act.put, List.setIfInBounds_toArray, List.set_cons_zero, List.set_cons_succ]
              have hf3 := vs37 hf2 g.id
              have hs3 := blk_set_other hs2 (show w.heap.size ≠ wr.heap.size by have := HVW.out; omega) 37 (.int .u32 g.id)
              refine all_one (i := 15) (by kernel_rfl) rfl rfl ?_
              refine wp_storeA (.tmp 112) (.tmp 105) 22 rfl rfl rfl rfl (st_u32 hf2 (show 37 < _ by rw [vC_len]; omega) g.id) ⟨hs3, ?_⟩
              refine take_one (i := 16) (d := some 113) (v := .pointer (some ⟨wr.heap.size, 38, none⟩)) rfl rfl rfl (by kernel_rfl) (by kernel_rfl) (by kernel_rfl) (fun _ _ _ _ _ h => h.elim) (fun W hS => by kernel_rfl) hs3 ?_
              simp only [Act.put, List.setIfInBounds_toArray, List.set_cons_zero, List.set_cons_succ]
              have hf4 := vs38 hf3 g.off
              have hs4 := blk_set_other hs3 (show w.heap.size ≠ wr.heap.size by have := HVW.out; omega) 38 (.int .i64 g.off)
              refine all_one (i := 17) (by kernel_rfl) rfl rfl ?_
              refine wp_storeA (.tmp 113) (.tmp 107) 3 rfl rfl rfl rfl (st_int hf3 (show 38 < _ by rw [vC_len]; omega) g.off) ⟨hs4, ?_⟩
              refine take_one (i := 18) (d := some 114) (v := .pointer (some ⟨wr.heap.size, 39, none⟩)) rfl rfl rfl (by kernel_rfl) (by kernel_rfl) (by kernel_rfl) (fun _ _ _ _ _ h => h.elim) (fun W hS => by kernel_rfl) hs4 ?_
              simp only [Act.put, List.setIfInBounds_toArray, List.set_cons_zero, List.set_cons_succ]
              have hf5 := vs39 hf4 g.more
              have hs5 := blk_set_other hs4 (show w.heap.size ≠ wr.heap.size by have := HVW.out; omega) 39 (.bool g.more)
              refine all_one (i := 19) (by kernel_rfl) rfl rfl ?_
              refine wp_storeA (.tmp 114) (.tmp 109) 4 rfl rfl rfl rfl (st_bool hf4 (show 39 < _ by rw [vC_len]; omega) g.more) ⟨hs5, ?_⟩
              refine wpAnyH_done (by kernel_rfl) ?_ _
              exact ⟨rfl, hf5, (((((((Only.refl wr.heap.size wy).drew).set 41 _).set 36 _).set 37 _).set 38 _).set 39 _)⟩
            · rintro a' w8 ⟨rfl, hbx8, hon8⟩
              simp only [Act.put, List.setIfInBounds_toArray, List.set_cons_zero, List.set_cons_succ]
              have hOB8 := HOBN.out.only (by decide) HXY.out HBX0.out hon8
              have HOB8 : Hid (OB X1.heap.size X1 w8 bv' (bodies (L.take (k + 1)))) := hOB8
              have HL11 : Hid _ := vb_load hbx8
              have HL3 : Hid _ := vb_load (blk_on HVX.out hOB8.bel)
              have hdv := HDX.out.on hOB8.bel
              have hdg := HDG.out.on hOB8.bel
              have HSM : Hid _ := RSame_eq (g := g) HAD.out (S := fun _ => True) (S' := fun b => b < w.heap.size) (w := w8) ⟨hdg.hd.mono (fun _ _ _ => trivial), hdv.bd.mono (fun _ _ _ => trivial), hdv.lab⟩ hdv
              have hs8 : X1.heap.size ≤ w8.heap.size := hOB8.bel.size
              clear hOB8 hdv hdg hbx8 hon8 HXY HVY HOBN
              go_wp2_with first
                | ((with_reducible show wpList _ _ _ ({ dst := _, op := Op.load 28 (Operand.tmp 11), type := _, pos := _, after := _, guard := _ } :: _) _ _); refine armL (.tmp 11) 28 rfl rfl rfl HL11.out ?_)
                | ((with_reducible show wpList _ _ _ ({ dst := _, op := Op.load 28 (Operand.tmp 3), type := _, pos := _, after := _, guard := _ } :: _) _ _); refine armL (.tmp 3) 28 rfl rfl rfl HL3.out ?_)
              refine Calls.mono HSM.out ?_
              rintro e w9 ⟨rfl, hb9⟩
              have HOB9 : Hid (OB X1.heap.size X1 w9 bv' (bodies (L.take (k + 1)))) := HOB8.out.below hs8 hb9
              have hs9 : X1.heap.size ≤ w9.heap.size := Nat.le_trans hs8 hb9.size
              clear hb9 HSM HL11 HL3 HOB8
              go_wp2
              exact ⟨⟨k + 1, by omega, by simp, HOB9.out, hs9⟩, by simp [intOf]; omega⟩
          · have y5 := HLAST.out (by have := HNN.out; omega)
            have b39' : ∀ y : Hi w5, y.W.cell? ⟨wr.heap.size, 39, none⟩ = some (.bool g.more) := fun y => by rw [b39 y, y5]
            have hmi : ¬ (k : Int) < (N1 : Int) := by omega
            clear b39 y5
            go_wp2_with fail
            refine wp_region_hi (by kernel_rfl) (by kernel_rfl) ?_
            repeat (first | go_big_quiet_skip | (go_big_quiet_want; go_big_quiet_op; first | go_big_quiet_on | go_big_quiet_call (fail)))
            refine wpQuiet_nil ?_
            intro _ hw
            obtain ⟨y, rfl⟩ := hw
            have hBy := HUP.out y
            have hByX := HUPX.out y
            have d41 := vb41 (blk_on HBX3.out hBy)
            have hOBy := HOB3.out.below hs13 hBy
            obtain ⟨bv', wy, hrun, hob', hs', hkeep⟩ := hOBy.app (Nat.le_trans hs13 hBy.size) ((HDG.out.on hByX).bd.row.bytes) (by rw [HBLE.out]; exact hbl1) 26
            have HRUN : Hid _ := hrun
            have HOBN : Hid (OB X1.heap.size X1 wy bv' (bodies (L.take (k + 1)))) := by show OB _ _ _ _ _; rw [HTK.out]; exact hob'
            have HXY : Hid (wy.heap[wr.heap.size]? = some (BV f x.g vhg (.slice ag x.body.length cg))) := hkeep _ _ _ _ (by decide) (blk_on HBX3.out hBy)
            have HVY : Hid (wy.heap[w.heap.size]? = some (BV f g vh (.slice a3 nb c3))) := blk_on HVX.out hob'.bel
            clear hrun hob' hkeep hOBy hBy hByX b38 v38 v39 HUP HUPX HOB3 HBX3 HTK w67 w68 b36' b37' b39' r37'
            go_wp2_with (at_builtin; refine wpList_append_run rfl _ _ _ _ rfl rfl rfl HRUN.out ?_; clear HRUN)
            clear d41
            refine region_mid (fun a0 a' w' => a' = (((((((((((((((a0.put (some 100) (.pointer (some ⟨w.heap.size, 41, none⟩))).put (some 101) ((.slice a3 nb c3))).put (some 102) (.pointer (some ⟨w.heap.size, 36, none⟩))).put (some 103) (.bool g.fr)).put (some 104) (.pointer (some ⟨w.heap.size, 37, none⟩))).put (some 105) (.int .u32 g.id)).put (some 106) (.pointer (some ⟨w.heap.size, 38, none⟩))).put (some 107) (.int .i64 g.off)).put (some 108) (.pointer (some ⟨w.heap.size, 39, none⟩))).put (some 109) (.bool g.more)).put (some 110) (.pointer (some ⟨wr.heap.size, 41, none⟩))).put (some 111) (.pointer (some ⟨wr.heap.size, 36, none⟩))).put (some 112) (.pointer (some ⟨wr.heap.size, 37, none⟩))).put (some 113) (.pointer (some ⟨wr.heap.size, 38, none⟩))).put (some 114) (.pointer (some ⟨wr.heap.size, 39, none⟩))) ∧ w'.heap[wr.heap.size]? = some (BV f g vhg (.slice a3 nb c3)) ∧ Only wr.heap.size wy w') ?_ ?_
            · refine wp_region_held (S := fun X => X.heap[w.heap.size]? = some (BV f g vh (.slice a3 nb c3))) (by kernel_rfl) ?_
              show wpAnyH _ _ _ _ _ 20 (Array.replicate 20 false) _ _
              have hs0 : wy.drew.heap[w.heap.size]? = some (BV f g vh (.slice a3 nb c3)) := HVY.out
              have hf0 : wy.drew.heap[wr.heap.size]? = some (BV f x.g vhg (.slice ag x.body.length cg)) := HXY.out
              refine take_one (i := 0) (d := some 100) (v := .pointer (some ⟨w.heap.size, 41, none⟩)) rfl rfl rfl (by kernel_rfl) (by kernel_rfl) (by kernel_rfl) (fun _ _ _ _ _ h => h.elim) (fun W hS => by kernel_rfl) hs0 ?_
              simp only [Act.put, List.setIfInBounds_toArray, List.set_cons_zero, List.set_cons_succ]
              refine take_one (i := 1) (d := some 101) (v := (.slice a3 nb c3)) rfl rfl rfl (by kernel_rfl) (by kernel_rfl) (by kernel_rfl) (fun _ _ _ _ _ h => h.elim) (fun W hS => ex_loadA (.tmp 100) 26 rfl rfl (ld_row (vb41 hS) ⟨_, _, _, rfl⟩)) hs0 ?_
              simp only [Act.put, List.setIfInBounds_toArray, List.set_cons_zero, List.set_cons_succ]
              refine take_one (i := 2) (d := some 102) (v := .pointer (some ⟨w.heap.size, 36, none⟩)) rfl rfl rfl (by kernel_rfl) (by kernel_rfl) (by kernel_rfl) (fun _ _ _ _ _ h => h.elim) (fun W hS => by kernel_rfl) hs0 ?_
              simp only [Act.put, List.setIfInBounds_toArray, List.set_cons_zero, List.set_cons_succ]
              refine take_one (i := 3) (d := some 103) (v := .bool g.fr) rfl rfl rfl (by kernel_rfl) (by kernel_rfl) (by kernel_rfl) (fun _ _ _ _ _ h => h.elim) (fun W hS => ex_loadA (.tmp 102) 4 rfl rfl (ld_bool (vb36 hS))) hs0 ?_
              simp only [Act.put, List.setIfInBounds_toArray, List.set_cons_zero, List.set_cons_succ]
              refine take_one (i := 4) (d := some 104) (v := .pointer (some ⟨w.heap.size, 37, none⟩)) rfl rfl rfl (by kernel_rfl) (by kernel_rfl) (by kernel_rfl) (fun _ _ _ _ _ h => h.elim) (fun W hS => by kernel_rfl) hs0 ?_
              simp only [Act.put, List.setIfInBounds_toArray, List.set_cons_zero, List.set_cons_succ]
              refine take_one (i := 5) (d := some 105) (v := .int .u32 g.id) rfl rfl rfl (by kernel_rfl) (by kernel_rfl) (by kernel_rfl) (fun _ _ _ _ _ h => h.elim) (fun W hS => ex_loadA (.tmp 104) 22 rfl rfl (ld_u32 (vb37 hS))) hs0 ?_
              simp only [Act.put, List.setIfInBounds_toArray, List.set_cons_zero, List.set_cons_succ]
              refine take_one (i := 6) (d := some 106) (v := .pointer (some ⟨w.heap.size, 38, none⟩)) rfl rfl rfl (by kernel_rfl) (by kernel_rfl) (by kernel_rfl) (fun _ _ _ _ _ h => h.elim) (fun W hS => by kernel_rfl) hs0 ?_
              simp only [Act.put, List.setIfInBounds_toArray, List.set_cons_zero, List.set_cons_succ]
              refine take_one (i := 7) (d := some 107) (v := .int .i64 g.off) rfl rfl rfl (by kernel_rfl) (by kernel_rfl) (by kernel_rfl) (fun _ _ _ _ _ h => h.elim) (fun W hS => ex_loadA (.tmp 106) 3 rfl rfl (ld_int (vb38 hS))) hs0 ?_
              simp only [Act.put, List.setIfInBounds_toArray, List.set_cons_zero, List.set_cons_succ]
              refine take_one (i := 8) (d := some 108) (v := .pointer (some ⟨w.heap.size, 39, none⟩)) rfl rfl rfl (by kernel_rfl) (by kernel_rfl) (by kernel_rfl) (fun _ _ _ _ _ h => h.elim) (fun W hS => by kernel_rfl) hs0 ?_
              simp only [Act.put, List.setIfInBounds_toArray, List.set_cons_zero, List.set_cons_succ]
              refine take_one (i := 9) (d := some 109) (v := .bool g.more) rfl rfl rfl (by kernel_rfl) (by kernel_rfl) (by kernel_rfl) (fun _ _ _ _ _ h => h.elim) (fun W hS => ex_loadA (.tmp 108) 4 rfl rfl (ld_bool (vb39 hS))) hs0 ?_
              simp only [Act.put, List.setIfInBounds_toArray, List.set_cons_zero, List.set_cons_succ]
              refine take_one (i := 10) (d := some 110) (v := .pointer (some ⟨wr.heap.size, 41, none⟩)) rfl rfl rfl (by kernel_rfl) (by kernel_rfl) (by kernel_rfl) (fun _ _ _ _ _ h => h.elim) (fun W hS => by kernel_rfl) hs0 ?_
              simp only [Act.put, List.setIfInBounds_toArray, List.set_cons_zero, List.set_cons_succ]
              have hf1 := vs41 hf0 (.slice a3 nb c3)
              have hs1 := blk_set_other hs0 (show w.heap.size ≠ wr.heap.size by have := HVW.out; omega) 41 (.slice a3 nb c3)
              refine all_one (i := 11) (by kernel_rfl) rfl rfl ?_
              refine wp_storeA (.tmp 110) (.tmp 101) 26 rfl rfl rfl rfl (st_row hf0 (show 41 < _ by rw [vC_len]; omega) ⟨_, _, _, rfl⟩) ⟨hs1, ?_⟩
              refine take_one (i := 12) (d := some 111) (v := .pointer (some ⟨wr.heap.size, 36, none⟩)) rfl rfl rfl (by kernel_rfl) (by kernel_rfl) (by kernel_rfl) (fun _ _ _ _ _ h => h.elim) (fun W hS => by kernel_rfl) hs1 ?_
              simp only [Act.put, List.setIfInBounds_toArray, List.set_cons_zero, List.set_cons_succ]
              have hf2 := vs36 hf1 g.fr
              have hs2 := blk_set_other hs1 (show w.heap.size ≠ wr.heap.size by have := HVW.out; omega) 36 (.bool g.fr)
              refine all_one (i := 13) (by kernel_rfl) rfl rfl ?_
              refine wp_storeA (.tmp 111) (.tmp 103) 4 rfl rfl rfl rfl (st_bool hf1 (show 36 < _ by rw [vC_len]; omega) g.fr) ⟨hs2, ?_⟩
              refine take_one (i := 14) (d := some 112) (v := .pointer (some ⟨wr.heap.size, 37, none⟩)) rfl rfl rfl (by kernel_rfl) (by kernel_rfl) (by kernel_rfl) (fun _ _ _ _ _ h => h.elim) (fun W hS => by kernel_rfl) hs2 ?_
              simp only [Act.put, List.setIfInBounds_toArray, List.set_cons_zero, List.set_cons_succ]
              have hf3 := vs37 hf2 g.id
              have hs3 := blk_set_other hs2 (show w.heap.size ≠ wr.heap.size by have := HVW.out; omega) 37 (.int .u32 g.id)
              refine all_one (i := 15) (by kernel_rfl) rfl rfl ?_
              refine wp_storeA (.tmp 112) (.tmp 105) 22 rfl rfl rfl rfl (st_u32 hf2 (show 37 < _ by rw [vC_len]; omega) g.id) ⟨hs3, ?_⟩
              refine take_one (i := 16) (d := some 113) (v := .pointer (some ⟨wr.heap.size, 38, none⟩)) rfl rfl rfl (by kernel_rfl) (by kernel_rfl) (by kernel_rfl) (fun _ _ _ _ _ h => h.elim) (fun W hS => by kernel_rfl) hs3 ?_
              simp only [Act.put, List.setIfInBounds_toArray, List.set_cons_zero, List.set_cons_succ]
              have hf4 := vs38 hf3 g.off
              have hs4 := blk_set_other hs3 (show w.heap.size ≠ wr.heap.size by have := HVW.out; omega) 38 (.int .i64 g.off)
              refine all_one (i := 17) (by kernel_rfl) rfl rfl ?_
              refine wp_storeA (.tmp 113) (.tmp 107) 3 rfl rfl rfl rfl (st_int hf3 (show 38 < _ by rw [vC_len]; omega) g.off) ⟨hs4, ?_⟩
              refine take_one (i := 18) (d := some 114) (v := .pointer (some ⟨wr.heap.size, 39, none⟩)) rfl rfl rfl (by kernel_rfl) (by kernel_rfl) (by kernel_rfl) (fun _ _ _ _ _ h => h.elim) (fun W hS => by kernel_rfl) hs4 ?_
              simp only [Act.put, List.setIfInBounds_toArray, List.set_cons_zero, List.set_cons_succ]
              have hf5 := vs39 hf4 g.more
              have hs5 := blk_set_other hs4 (show w.heap.size ≠ wr.heap.size by have := HVW.out; omega) 39 (.bool g.more)
              refine all_one (i := 19) (by kernel_rfl) rfl rfl ?_
              refine wp_storeA (.tmp 114) (.tmp 109) 4 rfl rfl rfl rfl (st_bool hf4 (show 39 < _ by rw [vC_len]; omega) g.more) ⟨hs5, ?_⟩
              refine wpAnyH_done (by kernel_rfl) ?_ _
              exact ⟨rfl, hf5, (((((((Only.refl wr.heap.size wy).drew).set 41 _).set 36 _).set 37 _).set 38 _).set 39 _)⟩
            · rintro a' w8 ⟨rfl, hbx8, hon8⟩
              simp only [Act.put, List.setIfInBounds_toArray, List.set_cons_zero, List.set_cons_succ]
              have hOB8 := HOBN.out.only (by decide) HXY.out HBX0.out hon8
              have HOB8 : Hid (OB X1.heap.size X1 w8 bv' (bodies (L.take (k + 1)))) := hOB8
              have HL11 : Hid _ := vb_load hbx8
              have HL3 : Hid _ := vb_load (blk_on HVX.out hOB8.bel)
              have hdv := HDX.out.on hOB8.bel
              have hdg := HDG.out.on hOB8.bel
              have HSM : Hid _ := RSame_eq (g := g) HAD.out (S := fun _ => True) (S' := fun b => b < w.heap.size) (w := w8) ⟨hdg.hd.mono (fun _ _ _ => trivial), hdv.bd.mono (fun _ _ _ => trivial), hdv.lab⟩ hdv
              have hs8 : X1.heap.size ≤ w8.heap.size := hOB8.bel.size
              clear hOB8 hdv hdg hbx8 hon8 HXY HVY HOBN
              go_wp2_with first
                | ((with_reducible show wpList _ _ _ ({ dst := _, op := Op.load 28 (Operand.tmp 11), type := _, pos := _, after := _, guard := _ } :: _) _ _); refine armL (.tmp 11) 28 rfl rfl rfl HL11.out ?_)
                | ((with_reducible show wpList _ _ _ ({ dst := _, op := Op.load 28 (Operand.tmp 3), type := _, pos := _, after := _, guard := _ } :: _) _ _); refine armL (.tmp 3) 28 rfl rfl rfl HL3.out ?_)
              refine Calls.mono HSM.out ?_
              rintro e w9 ⟨rfl, hb9⟩
              have HOB9 : Hid (OB X1.heap.size X1 w9 bv' (bodies (L.take (k + 1)))) := HOB8.out.below hs8 hb9
              have hs9 : X1.heap.size ≤ w9.heap.size := Nat.le_trans hs8 hb9.size
              clear hb9 HSM HL11 HL3 HOB8
              go_wp2
              exact ⟨⟨k + 1, by omega, by simp, HOB9.out, hs9⟩, by simp [intOf]; omega⟩
      · obtain rfl : k = N := by omega
        have hbody : bodies (L.take k) = body := by rw [List.take_of_length_le (by rw [HN.out]; omega), HBOD.out]
        have hob1 := hob.out
        rw [hbody] at hob1
        have hBw := hob1.bel
        have hfit : Fit body := HDX.out.bd.row.fit
        have v41 : wr.cell? ⟨w.heap.size, 41, none⟩ = some (.slice a3 nb c3) := vb41 (blk_on HVX.out hBw)
        have t1 : (convert 26 9 (.slice ab (bodies (L.take k)).length cb)).run Try.prog wr = .ok (.string (strOfNums body)) wr := by rw [hbody]; exact ((hob1.row hfit (by have := HNB.out; omega)).bytes).text
        have t2 : (convert 26 9 (.slice a3 nb c3)).run Try.prog wr = .ok (.string (strOfNums body)) wr := (HDX.out.on hBw).bd.row.bytes.text
        have HBE : Hid (Below w.heap.size w wr) := HX1.out.trans (hBw.mono HX1.out.size)
        have hNp : 0 < k := by have := HNN.out; omega
        clear hob hob1 hfit hBw hbody
        generalize (bodies (L.take k)).length = bl at *
        generalize strOfNums body = SS at *
        go_wp2
        go_ret
        exact ⟨rfl, HBE.out⟩
  | some er =>
    have HSP : Hid _ := Split_no g mtu id hD1 er he
    have hne := fragP_err he
    have q1 : (er != 0) = true := by simpa using hne
    clear hne hD1 he hB1
    go_wp2_with first
      | ((with_reducible show wpList _ _ _ ({ dst := _, op := Op.load 28 (Operand.tmp 3), type := _, pos := _, after := _, guard := _ } :: _) _ _); refine armL (.tmp 3) 28 rfl rfl rfl HLD.out ?_)
    refine Calls.mono HSP.out ?_
    rintro e X1 ⟨rfl, hX1⟩
    have HX1 : Hid (Below w.heap.size w X1) := HB1.out.trans (hX1.mono HB1.out.size)
    clear hX1 HSP HLD
    go_wp2
    go_ret
    exact ⟨rfl, HX1.out⟩
end
theorem splitsixAll_open {H : Type} {enc : TypeId × Value → H} {W : World} {base : Nat} (v0 v1 v2 : Value) {d0 d1 d2 : DataW H} {p0 p1 p2 : List MemPlace}
    (o0 : Value.okWide Try.prog W .any base 28 v0) (h0 : DataW.Trod enc Try.prog W 0 (fun _ => true) true 28 v0 d0 p0) (z0 : ∀ k ∈ d0.weights Try.prog 28, k ≤ reachBytes)
    (o1 : Value.okWide Try.prog W .any base 3 v1) (h1 : DataW.Trod enc Try.prog W 0 (fun _ => true) true 3 v1 d1 p1) (z1 : ∀ k ∈ d1.weights Try.prog 3, k ≤ reachBytes)
    (o2 : Value.okWide Try.prog W .any base 22 v2) (h2 : DataW.Trod enc Try.prog W 0 (fun _ => true) true 22 v2 d2 p2) (z2 : ∀ k ∈ d2.weights Try.prog 22, k ≤ reachBytes) :
    Calls Try.prog 5 #[v0, v1, v2] W fun e w' => e = .returned (.bool true) ∧ Below W.heap.size W w' := by
  obtain ⟨f, g, vh, vb, hs, body, rfl, hd, _, _, ha, _⟩ := open_v6 h0 z0
  obtain ⟨k, rfl, _, _, wk⟩ := open_int Try.underlying3 o1 h1
  obtain ⟨i, rfl, _, _, wi⟩ := open_int Try.underlying22 o2 h2
  exact splitsixAll_walk f g vh vb hs body k i W ha hd (bounds_i64 wk)

end Go.Proofs.Ytcllcinekohklaa
