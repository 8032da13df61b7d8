/-
  The statement SplitsixAgain.
-/
import Derived.Test.YtcllcinekohklaaXe3
namespace Go.Proofs.Ytcllcinekohklaa
open Go Go.RowKit
set_option linter.unusedVariables false
set_option linter.unusedSimpArgs false

theorem OB.app2 {base : Nat} {w wx : World} {v u : Value} {zs ys : List Int} (h : OB base w wx v zs) (hs : base ≤ wx.heap.size) (hb : BytesAt wx.heap.size wx u ys) (hl : zs.length + ys.length ≤ 1000000) (ty : TypeId) :
    ∃ v' wy, (Builtin.append_ #[26, 26] ty #[v, u]).run Try.prog wx = .ok v' wy ∧ OB base w wy v' (zs ++ ys) ∧ base ≤ wy.heap.size ∧ Sep (fun c => v.ownBlock = some c) wx wy ∧ (v'.ownBlock = v.ownBlock ∨ ∀ c, v'.ownBlock = some c → wx.heap.size ≤ c) := by
  obtain ⟨_, _, a, c, rfl, hz⟩ := hb
  have hnone : a = none → ys.length = 0 := fun e => by
    rcases hz with hz | ⟨b, off, hz, _⟩
    · exact hz
    · rw [e] at hz; cases hz
  obtain ⟨v', wy, h1, h2, h3, h4⟩ := own_append elem_u8 (c := c) h.own a (bytesV ys) (bytesV_length ys) hnone (fun x hx j u hj => by
      rcases hz with hz | ⟨b, off, hz, _, hc⟩
      · have := (List.getElem?_eq_some_iff.1 hj).1; rw [bytesV_length] at this; omega
      · rw [hx] at hz
        cases hz
        have hjl := (List.getElem?_eq_some_iff.1 hj).1
        rw [bytesV_length] at hjl
        rw [Go.WideShapes.add_plain, hc j hjl]
        unfold bytesV at hj
        rw [List.getElem?_map] at hj
        obtain ⟨z, hz, rfl⟩ := Option.map_eq_some_iff.1 hj
        rw [hz]
        rfl) (fun u hu => by
      unfold bytesV at hu
      obtain ⟨z, _, rfl⟩ := List.mem_map.1 hu
      rfl) (by unfold maxLen; omega) (by omega) hs ty
  have hB : Below base wx wy := (Below.refl _ wx).grown h3 hs (fun j hj => (h.own.lt j hj).1)
  refine ⟨v', wy, h1, ⟨?_, h.bel.trans hB⟩, Nat.le_trans hs hB.size, ⟨h3.os, h3.tape, h3.output, h3.size, fun b hb hn => h3.block b hb (fun e => hn e.symm)⟩, h4⟩
  rw [List.length_append]
  have e : bytesV (zs ++ ys) = bytesV zs ++ bytesV ys := by simp [bytesV]
  rw [e]
  exact h2
theorem OB.lt {base : Nat} {w wx : World} {v : Value} {zs : List Int} (h : OB base w wx v zs) {c : Nat} (hc : v.ownBlock = some c) : c < wx.heap.size := (own_lt h.own hc).2
/-- A row of datagrams beside an own row of bytes that is appended to. -/
structure Beside (f : F6) (hs : Opts) (base : Nat) (bv mv : Value) (M : List FG) (w : World) : Prop where
  row : RowV f hs base (fun c => bv.ownBlock ≠ some c) w mv M
  ne : ∀ c, mv.ownBlock = some c → bv.ownBlock ≠ some c
theorem Beside.on {f : F6} {hs : Opts} {base : Nat} {bv mv : Value} {M : List FG} {w w' : World} (h : Beside f hs base bv mv M w) (hb : Below w.heap.size w w') : Beside f hs base bv mv M w' := ⟨h.row.on hb, h.ne⟩
theorem Beside.app {f : F6} {hs : Opts} {base : Nat} {bv bv' mv : Value} {M : List FG} {w w' : World} (h : Beside f hs base bv mv M w) (hsp : Sep (fun c => bv.ownBlock = some c) w w') (hat : bv'.ownBlock = bv.ownBlock ∨ ∀ c, bv'.ownBlock = some c → w.heap.size ≤ c) : Beside f hs base bv' mv M w' := by
  have key : ∀ c, c < w.heap.size → bv.ownBlock ≠ some c → bv'.ownBlock ≠ some c := fun c hc hn e => by
    rcases hat with hat | hat
    · exact hn (hat ▸ e)
    · have := hat c e; omega
  refine ⟨?_, fun c hc => key c (h.row.lt hc).2 (h.ne c hc)⟩
  refine (((h.row.mono (S' := fun c => bv.ownBlock ≠ some c ∧ c < w.heap.size) (fun c hc hh => ⟨hh, hc⟩)).sep hsp (fun c hc e => hc.1 e) (fun c hc e => h.ne c hc e)).mono (fun c _ hc => key c hc.2 hc.1))
theorem Beside.of {f : F6} {hs : Opts} {n : Nat} {bv mv : Value} {M : List FG} {w : World} (h : RowV f hs n (fun c => n ≤ c) w mv M) (hb : ∀ c, bv.ownBlock = some c → c < n) : Beside f hs n bv mv M w :=
  ⟨h.mono (fun c _ hc e => by have := hb c e; omega), fun c hc e => by have := hb c e; have := (h.lt hc).1; omega⟩


open Go.ChangeShapes Go.WideShapes Go.ChangeAt
theorem fragP_id {f : F6} {hs : Opts} {g : G6} {body : List Int} {mtu id : Int} (he : (fragP f hs g body mtu id).2 = none) (hf : g.fr = true) (j : Nat) (x : FG) (hx : (fragP f hs g body mtu id).1[j]? = some x) : x.g.id = g.id := by
  have hh : hdG g id = g := by unfold hdG; rw [if_pos hf]
  by_cases hl : 1 < (fragP f hs g body mtu id).1.length
  · rw [((fragP_all he).1 j x hx).many hl |>.2, hh]
  · unfold fragP at he hx hl
    by_cases h1 : fitE f hs g body.length mtu ≠ 0
    · rw [if_pos h1] at he
      cases he
    rw [if_neg h1] at he hx hl
    by_cases h2 : fitB hs g body.length mtu = true
    · rw [if_pos h2] at hx
      match j, hx with
      | 0, hx => simp at hx; rw [← hx]
      | j + 1, hx => simp at hx
    rw [if_neg h2] at he hx hl
    by_cases h3 : g.more = true ∧ body.length % 8 ≠ 0
    · rw [if_pos h3] at he
      cases he
    rw [if_neg h3] at he hx hl
    by_cases h4 : mtu < (ahead6 hs true : Int) + 8
    · rw [if_pos h4] at he
      cases he
    rw [if_neg h4] at he hx hl
    rw [hh] at he hx hl
    have hsp : (spN hs mtu : Int) = mtu - (ahead6 hs true : Int) := by unfold spN; omega
    have ho := ck_off (fitE_zero (by simpa using h1)).1
    obtain ⟨q1, q2, q3⟩ := frs_ok (sp := spN hs mtu) (nn := spN hs mtu / 8 * 8) (g := g) (by omega) (by omega) (by omega) body.length g.off body (Nat.le_refl _) ho.2 he
    exact (q1 j x hx).id

section
variable (f : F6) (g : G6) (vh vb : Value) (hs : Opts) (body : List Int) (mtu less id : Int) (w : World)
set_option maxHeartbeats 8000000 in
set_option maxRecDepth 100000 in
theorem splitsixAgain_walk (h : D6 (fun b => b < w.heap.size) w f vh vb hs body) (hmt : -9223372036854775808 ≤ mtu ∧ mtu ≤ 9223372036854775807) :
    Calls Try.prog 7 #[VV f g vh vb, .int .i64 mtu, .int .i64 less, .int .u32 id] w fun e w' => e = .returned (.bool true) ∧ Below w.heap.size w w' := by
  obtain ⟨w0, hw0⟩ : ∃ w0, w0 = w.alloc (BV f g vh vb) := ⟨_, rfl⟩
  have hb0 : w0.heap[w.heap.size]? = some (BV f g vh vb) := by rw [hw0]; exact blk_new w (BV f g vh vb)
  have hB0 : Below w.heap.size w w0 := by rw [hw0]; exact (Below.refl w.heap.size w).alloc (Nat.le_refl _) (BV f g vh vb)
  have HB0 : Hid (w0.heap[w.heap.size]? = some (BV f g vh vb)) := hb0
  have HBB : Hid (Below w.heap.size w w0) := hB0
  have HD : Hid (D6 (fun b => b < w.heap.size) w f vh vb hs body) := h
  have HAW : Hid (∀ X, Calls Try.prog 15 #[] X fun e w' => e = .returned (.bool true) ∧ Below X.heap.size X w') := fun X => awake_calls X
  have hW := hw0.symm
  clear hb0 hB0 h hw0
  go_enter Try.func7, Try.ntmps7
  go_wp2_with fail
  refine Calls.mono (HAW.out _) ?_
  rintro e w1 ⟨rfl, hb1⟩
  have hv1 := blk_on HB0.out hb1
  have HLD : Hid _ := vb_load hv1
  have HV1 : Hid (w1.heap[w.heap.size]? = some (BV f g vh vb)) := hv1
  have hB1 : Below w.heap.size w w1 := HBB.out.trans (hb1.mono HBB.out.size)
  have HB1 : Hid (Below w.heap.size w w1) := hB1
  have hD1 := HD.out.on hB1
  clear hb1 HB0 HBB HAW hW hv1
  cases he : (fragP f hs g body mtu id).2 with
  | none =>
    have HSP : Hid _ := Split_yes g mtu id hD1 he
    obtain ⟨HOK, hbod, hNp, hk0, hm1, hm2⟩ := fragP_all he
    have HFO : Hid _ := HOK
    have HLL : Hid _ := fragP_len f hs g body mtu id
    have HBOD : Hid _ := hbod
    have hbl : body.length ≤ 70000 := by have := (ck_zero hk0).2; omega
    have hgo := ck_off hk0
    have HDW : Hid (D6 (fun b => b < w.heap.size) w1 f vh vb hs body) := hD1
    clear HOK hbod hk0 hD1 he hB1
    generalize (fragP f hs g body mtu id).1 = L at *
    go_wp2_with first
      | ((with_reducible show wpList _ _ _ ({ dst := _, op := Op.load 28 (Operand.tmp 4), type := _, pos := _, after := _, guard := _ } :: _) _ _); refine armL (.tmp 4) 28 rfl rfl rfl HLD.out ?_)
    refine Calls.mono HSP.out ?_
    rintro e X1 ⟨v1, rfl, hr1, hX1⟩
    obtain ⟨a1, c1, e1⟩ := hr1.slc
    subst e1
    have HR : Hid (RowV f hs w1.heap.size (fun b => w1.heap.size ≤ b) X1 (.slice a1 L.length c1) L) := hr1
    have HX1 : Hid (Below w.heap.size w X1) := HB1.out.trans (hX1.mono HB1.out.size)
    have HVX : Hid (X1.heap[w.heap.size]? = some (BV f g vh vb)) := blk_on HV1.out hX1
    have HDX : Hid (D6 (fun b => b < w.heap.size) X1 f vh vb hs body) := HDW.out.on hX1
    obtain ⟨a3, c3, hvb⟩ : ∃ a c, vb = .slice a body.length c := by obtain ⟨_, _, a, cap, e, _⟩ := HDW.out.bd.row; exact ⟨_, _, e⟩
    obtain ⟨N1, hN⟩ : ∃ N1, L.length = N1 + 1 := ⟨L.length - 1, by omega⟩
    have HN : Hid _ := hN
    rw [hN]
    obtain ⟨m, rfl⟩ : ∃ m : Nat, mtu = m := ⟨mtu.toNat, by omega⟩
    have hN1 : N1 ≤ 1000000000 := by have := HLL.out; omega
    subst hvb
    clear hN hNp hr1 hX1 HSP HLD HV1 HDW
    obtain ⟨nb, hnb⟩ : ∃ nb, body.length = nb := ⟨_, rfl⟩
    have HNB : Hid (body.length = nb) := hnb
    rw [hnb] at hbl HVX HDX ⊢
    clear hnb
    have w30 : IntKind.i64.wrap (((N1 + 1 : Nat) : Int) - 1) = (N1 : Int) := by rw [show ((N1 + 1 : Nat) : Int) - 1 = (N1 : Int) by omega]; exact wrapi64 _ (by omega)
    generalize hNN : N1 + 1 = N at *
    have HNN : Hid _ := hNN
    clear hNN
    by_cases h2 : N < 2
    · have q2 : decide ((N : Int) < 2) = true := by simp; omega
      have HE : Hid (Below w.heap.size w X1) := HX1.out
      clear w30
      go_wp2
      go_ret
      exact ⟨rfl, HE.out⟩
    have q2 : decide ((N : Int) < 2) = false := by simp; omega
    have hN2 : 1 < N := by omega
    obtain ⟨id1, hid1⟩ : ∃ id1, IntKind.u32.wrap (id + 1) = id1 := ⟨_, rfl⟩
    go_wp2_with fail
    go_loopw [11, 12] (fun bv i wr => ∃ k : Nat, k ≤ N ∧ i = .int .i64 k ∧ Hid (OB X1.heap.size X1 wr bv (bodies (L.take k))) ∧ X1.heap.size ≤ wr.heap.size) (fun _ i _ => N - (intOf i).toNat)
    case atStart => exact ⟨0, Nat.zero_le _, rfl, by show OB _ _ _ _ _; simp only [List.take_zero]; exact OB.nil X1 _, Nat.le_refl _⟩
    case round =>
      obtain ⟨k, hk, rfl, hob, hsz0⟩ := hrel
      obtain ⟨ab, cb, hbv⟩ := hob.out.slc
      subst hbv
      by_cases hlt : k < N
      · obtain ⟨x, hg⟩ : ∃ x, L[k]? = some x := ⟨L[k]'(by rw [HN.out]; exact hlt), by simp⟩
        obtain ⟨x0, hg0⟩ : ∃ x, L[0]? = some x := ⟨L[0]'(by rw [HN.out]; omega), by simp⟩
        obtain ⟨bk, vhg, vbg, ag, cg, ea, hbk, _, esb, hd, hat⟩ := row_at HR.out hg
        obtain ⟨bk0, _, _, _, _, ea0, _, _, _, _, hat0⟩ := row_at HR.out hg0
        subst ea
        subst esb
        obtain rfl : bk0 = bk := by injection ea0 with ea0; injection ea0 with ea0; exact ea0.symm
        have hok := HFO.out k x hg
        have hok0 := HFO.out 0 x0 hg0
        have hBw := hob.out.bel
        have HLV : Hid _ := (hat _ hBw).1
        have hki : (k : Int) < (N : Int) := by omega
        have hkb : k ≤ 1000000000 := by have := HNN.out; omega
        have HOB : Hid (OB X1.heap.size X1 wr (.slice ab (bodies (L.take k)).length cb) (bodies (L.take k))) := hob.out
        have hDG := hd.on hBw
        have HAT0 : Hid _ := hat0
        have HPL : Hid (8 * (x.g.off - g.off) = ((bodies (L.take k)).length : Int)) := hok.pl
        have HXO : Hid (0 ≤ x.g.off ∧ x.g.off ≤ 8191) := hok.off
        have HMID : Hid _ := hok.mid
        have HLAST : Hid _ := hok.last
        have HMANY : Hid _ := hok.many (by rw [HN.out]; exact hN2)
        have HMANY0 : Hid _ := hok0.many (by rw [HN.out]; exact hN2)
        rw [HN.out] at HMID HLAST
        have hbl1 : (bodies (L.take k)).length + x.body.length ≤ 70000 := by
          have h1 := bodies_take_le L (k + 1)
          rw [take_at' L k hg, bodies_push, List.length_append, HBOD.out, HNB.out] at h1
          omega
        have HTK : Hid (bodies (L.take (k + 1)) = bodies (L.take k) ++ x.body) := by show _ = _; rw [take_at' L k hg, bodies_push]
        have HUP : Hid (∀ X, Below wr.heap.size wr X → Below X1.heap.size X1 X) := fun X hX => hBw.trans (hX.mono hsz0)
        have HBX : Hid (Below w.heap.size w wr) := HX1.out.trans (hBw.mono HX1.out.size)
        have HLT : Hid (∀ c, (Value.slice ab (bodies (L.take k)).length cb).ownBlock = some c → c < wr.heap.size) := fun c hc => HOB.out.lt hc
        clear hat hat0 hok hok0 hd hBw hob hg hg0 ea0
        cases he2 : (fragP f hs x.g x.body less id1).2 with
        | none =>
          have HSP2 : Hid _ := Split_yes x.g less id1 hDG he2
          have hidM := fragP_id he2 HMANY.out.1
          obtain ⟨HOK2, hbod2, hMp, _, _, _⟩ := fragP_all he2
          have HFO2 : Hid _ := HOK2
          have HLL2 : Hid _ := fragP_len f hs x.g x.body less id1
          have HBOD2 : Hid _ := hbod2
          have HIDM : Hid _ := hidM
          clear HOK2 hbod2 he2 hDG hidM
          generalize (fragP f hs x.g x.body less id1).1 = M at *
          generalize hB0 : bodies (L.take k) = B0 at *
          have HB0 : Hid _ := hB0
          clear hB0
          generalize hbl0 : B0.length = bl0 at *
          have HBL0 : Hid _ := hbl0
          clear hbl0
          go_wp2_with first
            | ((with_reducible show wpList _ _ _ ({ dst := _, op := Op.load 28 (Operand.tmp 48), type := _, pos := _, after := _, guard := _ } :: _) _ _); refine armL (.tmp 48) 28 rfl rfl rfl HLV.out ?_)
          refine Calls.mono HSP2.out ?_
          rintro e w5 ⟨mv, rfl, hrm, hb5⟩
          have HB5 : Hid (Below X1.heap.size X1 w5) := HUP.out w5 hb5
          have hsz5 : X1.heap.size ≤ w5.heap.size := Nat.le_trans hsz0 hb5.size
          have HOB5 : Hid (OB X1.heap.size X1 w5 (.slice ab bl0 cb) B0) := HOB.out.below hsz0 hb5
          obtain ⟨a2, c2, e2⟩ := hrm.slc
          subst e2
          have HBS : Hid (Beside f hs wr.heap.size (.slice ab bl0 cb) (.slice a2 M.length c2) M w5) := Beside.of hrm HLT.out
          obtain ⟨M1, hMN⟩ : ∃ M1, M.length = M1 + 1 := ⟨M.length - 1, by omega⟩
          have HMN : Hid _ := hMN
          rw [hMN] at HBS ⊢
          have hM1 : M1 ≤ 1000000000 := by have := HLL2.out; omega
          have w85 : IntKind.i64.wrap (((M1 + 1 : Nat) : Int) - 1) = (M1 : Int) := by rw [show ((M1 + 1 : Nat) : Int) - 1 = (M1 : Int) by omega]; exact wrapi64 _ (by omega)
          generalize hMM : M1 + 1 = MN at *
          have HMM : Hid _ := hMM
          obtain ⟨wn, hwn⟩ : ∃ n : Nat, n = wr.heap.size := ⟨_, rfl⟩
          rw [← hwn] at HBS
          clear hrm hMN hb5 HSP2 HLV HOB HLT HUP hMp hMM hwn HBX
          go_wp2_with fail
          go_loopw [11, 15] (fun bv i wq => ∃ j : Nat, j ≤ MN ∧ i = .int .i64 j ∧ Hid (OB X1.heap.size X1 wq bv (B0 ++ bodies (M.take j))) ∧ Hid (Beside f hs wn bv (.slice a2 MN c2) M wq) ∧ X1.heap.size ≤ wq.heap.size) (fun _ i _ => MN - (intOf i).toNat)
          case atStart => exact ⟨0, Nat.zero_le _, rfl, by show OB _ _ _ _ _; rw [List.take_zero]; have : bodies [] = [] := rfl; rw [this, List.append_nil]; exact HOB5.out, HBS.out, hsz5⟩
          case round =>
            obtain ⟨j, hj, rfl, hobj, hbsj, hszj⟩ := hrel
            obtain ⟨abj, cbj, hbvj⟩ := hobj.out.slc
            subst hbvj
            by_cases hltj : j < MN
            · obtain ⟨z, hh⟩ : ∃ z, M[j]? = some z := ⟨M[j]'(by rw [HMN.out]; exact hltj), by simp⟩
              have hrowj := hbsj.out.row
              rw [← HMN.out] at hrowj
              obtain ⟨bm, vhz, vbz, ah, ch, ea2, hbm, _, esbh, hdz, hath⟩ := row_at hrowj hh
              subst ea2
              subst esbh
              have hok2 := HFO2.out j z hh
              have hBj := hobj.out.bel
              have hTKJ : bodies (M.take (j + 1)) = bodies (M.take j) ++ z.body := by rw [take_at' M j hh, bodies_push]
              have hle : (bodies (M.take j)).length + z.body.length ≤ x.body.length := by
                have h1 := bodies_take_le M (j + 1)
                rw [hTKJ, List.length_append, HBOD2.out] at h1
                exact h1
              have HTKZ : Hid (B0 ++ bodies (M.take (j + 1)) = (B0 ++ bodies (M.take j)) ++ z.body) := by show _ = _; rw [hTKJ, List.append_assoc]
              have hzl : (B0 ++ bodies (M.take j)).length = bl0 + (bodies (M.take j)).length := by rw [List.length_append, HBL0.out]
              obtain ⟨d, hdd⟩ : ∃ d : Nat, z.g.off - g.off = (d : Int) := ⟨(z.g.off - g.off).toNat, by have := HPL.out; have := hok2.pl; omega⟩
              have hbl8 : 8 * (d : Int) = ((B0 ++ bodies (M.take j)).length : Int) := by
                have h1 := HPL.out
                have h2 := hok2.pl
                omega
              have hblen : (B0 ++ bodies (M.take j)).length + z.body.length ≤ 1000000 := by omega
              have hblen2 : (B0 ++ bodies (M.take j)).length ≤ 70000 := by omega
              have hhm : z.g.more = (decide (j < M1) || decide (k < N1) || g.more) := by
                have hM := HMM.out
                have hN := HNN.out
                by_cases c1 : j < M1
                · rw [(hok2.mid (by rw [HMN.out]; omega)).1]; simp [c1]
                · rw [hok2.last (by rw [HMN.out]; omega)]
                  by_cases c2 : k < N1
                  · rw [(HMID.out (by omega)).1]; simp [c2]
                  · rw [HLAST.out (by omega)]; simp [c1, c2]
              have hid : z.g.id = x0.g.id := by rw [HIDM.out j z hh, HMANY.out.2, HMANY0.out.2]
              have hzo := hok2.off
              have HBLE : Hid _ := hblen
              have hup : ∀ y : Hi wr, Below X1.heap.size X1 y.W := fun y => hBj.trans (y.below.mono hszj)
              have g37 : ∀ y : Hi wr, y.W.cell? ⟨bm, j * 42 + 37, none⟩ = some (.int .u32 x0.g.id) := fun y => by rw [← hid]; exact (hath _ y.below).2.1
              have g38 : ∀ y : Hi wr, y.W.cell? ⟨bm, j * 42 + 38, none⟩ = some (.int .i64 z.g.off) := fun y => (hath _ y.below).2.2.1
              have g39 : ∀ y : Hi wr, y.W.cell? ⟨bm, j * 42 + 39, none⟩ = some (.bool z.g.more) := fun y => (hath _ y.below).2.2.2.1
              have H41 : Hid (∀ y : Hi wr, y.W.cell? ⟨bm, j * 42 + 41, none⟩ = some (.slice ah z.body.length ch)) := fun y => (hath _ y.below).2.2.2.2
              have r37 : ∀ y : Hi wr, y.W.cell? ⟨bk0, 37, none⟩ = some (.int .u32 x0.g.id) := fun y => by have := (HAT0.out _ (hup y)).2.1; simpa using this
              have v38 : ∀ y : Hi wr, y.W.cell? ⟨w.heap.size, 38, none⟩ = some (.int .i64 g.off) := fun y => vb38 (blk_on HVX.out (hup y))
              have v39 : ∀ y : Hi wr, y.W.cell? ⟨w.heap.size, 39, none⟩ = some (.bool g.more) := fun y => vb39 (blk_on HVX.out (hup y))
              have HOBJ : Hid (OB X1.heap.size X1 wr (.slice abj (B0 ++ bodies (M.take j)).length cbj) (B0 ++ bodies (M.take j))) := hobj.out
              have HBSJ : Hid (Beside f hs wn (.slice abj (B0 ++ bodies (M.take j)).length cbj) (.slice (some ⟨bm, 0, none⟩) MN c2) M wr) := hbsj.out
              have HBBH : Hid (BS (fun c => (Value.slice abj (B0 ++ bodies (M.take j)).length cbj).ownBlock ≠ some c) wr (.slice ah z.body.length ch) z.body) := hdz.bd
              generalize hZ : B0 ++ bodies (M.take j) = Z at *
              generalize hbl' : Z.length = bl at *
              have w73 : (bl : Int) / 8 = (d : Int) := by omega
              have w74 : IntKind.i64.wrap (g.off + (d : Int)) = z.g.off := by rw [show g.off + (d : Int) = z.g.off by omega]; exact wrapi64 _ (by omega)
              have hji : (j : Int) < (MN : Int) := by omega
              have hjb : j ≤ 1000000000 := by have := HMM.out; omega
              have HBL' : Hid _ := hbl'
              clear hath hok2 hBj hobj hbsj hrowj hdd hbl8 hTKJ hle hZ hbl' hup hid hdz hzl
              generalize z.g.off = zo at *
              generalize x0.g.id = ID at *
              generalize hmm : z.g.more = zm at *
              clear hmm
              by_cases cj : j < M1
              · obtain rfl : zm = true := by rw [hhm]; simp [cj]
                have cji : (j : Int) < (M1 : Int) := by omega
                clear hhm
                go_wp2_with fail
                refine wp_region_hi (by kernel_rfl) (by kernel_rfl) ?_
                repeat (first | go_big_quiet_skip | (go_big_quiet_want; go_big_quiet_op; first | go_big_quiet_on | go_big_quiet_call (fail)))
                refine wpQuiet_nil ?_
                intro _ hw
                obtain ⟨y, rfl⟩ := hw
                have d41 := H41.out y
                obtain ⟨bv', wy, hrun, hob', hs', hsep, hloc⟩ := (HOBJ.out.below hszj y.below).app2 (Nat.le_trans hszj y.below.size) ((HBBH.out.on y.below).row.bytes) (by have := HBLE.out; have := HBL'.out; omega) 26
                have HRUN : Hid _ := hrun
                have HOBN : Hid (OB X1.heap.size X1 wy bv' (B0 ++ bodies (M.take (j + 1)))) := by show OB _ _ _ _ _; rw [HTKZ.out]; exact hob'
                have HBSN : Hid (Beside f hs wn bv' (.slice (some ⟨bm, 0, none⟩) MN c2) M wy) := (HBSJ.out.on y.below).app hsep hloc
                clear hrun hob' g37 g38 g39 r37 v38 v39 HOBJ HBSJ HBBH w73 w74 hsep hloc H41
                go_wp2_with (at_builtin; refine wpList_append_run rfl _ _ _ _ rfl rfl rfl HRUN.out ?_; clear HRUN)
                exact ⟨⟨j + 1, by omega, by simp, HOBN.out, HBSN.out, hs'⟩, by simp [intOf]; omega⟩
              · have cji : ¬ (j : Int) < (M1 : Int) := by omega
                by_cases ck : k < N1
                · obtain rfl : zm = true := by rw [hhm]; simp [ck]
                  have cki : (k : Int) < (N1 : Int) := by omega
                  clear hhm
                  go_wp2_with fail
                  refine wp_region_hi (by kernel_rfl) (by kernel_rfl) ?_
                  repeat (first | go_big_quiet_skip | (go_big_quiet_want; go_big_quiet_op; first | go_big_quiet_on | go_big_quiet_call (fail)))
                  refine wpQuiet_nil ?_
                  intro _ hw
                  obtain ⟨y, rfl⟩ := hw
                  have d41 := H41.out y
                  obtain ⟨bv', wy, hrun, hob', hs', hsep, hloc⟩ := (HOBJ.out.below hszj y.below).app2 (Nat.le_trans hszj y.below.size) ((HBBH.out.on y.below).row.bytes) (by have := HBLE.out; have := HBL'.out; omega) 26
                  have HRUN : Hid _ := hrun
                  have HOBN : Hid (OB X1.heap.size X1 wy bv' (B0 ++ bodies (M.take (j + 1)))) := by show OB _ _ _ _ _; rw [HTKZ.out]; exact hob'
                  have HBSN : Hid (Beside f hs wn bv' (.slice (some ⟨bm, 0, none⟩) MN c2) M wy) := (HBSJ.out.on y.below).app hsep hloc
                  clear hrun hob' g37 g38 g39 r37 v38 v39 HOBJ HBSJ HBBH w73 w74 hsep hloc H41
                  go_wp2_with (at_builtin; refine wpList_append_run rfl _ _ _ _ rfl rfl rfl HRUN.out ?_; clear HRUN)
                  exact ⟨⟨j + 1, by omega, by simp, HOBN.out, HBSN.out, hs'⟩, by simp [intOf]; omega⟩
                · obtain rfl : zm = g.more := by rw [hhm]; simp [ck, cj]
                  have cki : ¬ (k : Int) < (N1 : Int) := by omega
                  clear hhm
                  go_wp2_with fail
                  refine wp_region_hi (by kernel_rfl) (by kernel_rfl) ?_
                  repeat (first | go_big_quiet_skip | (go_big_quiet_want; go_big_quiet_op; first | go_big_quiet_on | go_big_quiet_call (fail)))
                  refine wpQuiet_nil ?_
                  intro _ hw
                  obtain ⟨y, rfl⟩ := hw
                  have d41 := H41.out y
                  obtain ⟨bv', wy, hrun, hob', hs', hsep, hloc⟩ := (HOBJ.out.below hszj y.below).app2 (Nat.le_trans hszj y.below.size) ((HBBH.out.on y.below).row.bytes) (by have := HBLE.out; have := HBL'.out; omega) 26
                  have HRUN : Hid _ := hrun
                  have HOBN : Hid (OB X1.heap.size X1 wy bv' (B0 ++ bodies (M.take (j + 1)))) := by show OB _ _ _ _ _; rw [HTKZ.out]; exact hob'
                  have HBSN : Hid (Beside f hs wn bv' (.slice (some ⟨bm, 0, none⟩) MN c2) M wy) := (HBSJ.out.on y.below).app hsep hloc
                  clear hrun hob' g37 g38 g39 r37 v38 v39 HOBJ HBSJ HBBH w73 w74 hsep hloc H41
                  go_wp2_with (at_builtin; refine wpList_append_run rfl _ _ _ _ rfl rfl rfl HRUN.out ?_; clear HRUN)
                  exact ⟨⟨j + 1, by omega, by simp, HOBN.out, HBSN.out, hs'⟩, by simp [intOf]; omega⟩
            · have hjN : j = MN := by omega
              have hob2 : B0 ++ bodies (M.take j) = bodies (L.take (k + 1)) := by rw [List.take_of_length_le (l := M) (by rw [HMN.out]; omega), HBOD2.out, ← HTK.out]
              have HOB2 : Hid (OB X1.heap.size X1 wr (.slice abj (B0 ++ bodies (M.take j)).length cbj) (bodies (L.take (k + 1)))) := by show OB _ _ _ _ _; rw [← hob2]; exact hobj.out
              have hNj : ¬ j < MN := hltj
              clear hobj hbsj hob2 hjN hltj
              generalize (B0 ++ bodies (M.take j)).length = bl at *
              go_wp2_with fail
              exact ⟨⟨k + 1, by omega, by simp, HOB2.out, hszj⟩, by simp [intOf]; omega⟩
        | some er2 =>
          have HSP2 : Hid _ := Split_no x.g less id1 hDG er2 he2
          have hne := fragP_err he2
          have q3 : (er2 != 0) = true := by simpa using hne
          clear hne hDG he2 HOB HLT HTK
          generalize (bodies (L.take k)).length = bl at *
          go_wp2_with first
            | ((with_reducible show wpList _ _ _ ({ dst := _, op := Op.load 28 (Operand.tmp 48), type := _, pos := _, after := _, guard := _ } :: _) _ _); refine armL (.tmp 48) 28 rfl rfl rfl HLV.out ?_)
          refine Calls.mono HSP2.out ?_
          rintro e w5 ⟨rfl, hb5⟩
          have HB5 : Hid (Below w.heap.size w w5) := HBX.out.trans (hb5.mono HBX.out.size)
          clear hb5 HSP2 HLV HBX
          go_wp2
          go_ret
          exact ⟨rfl, HB5.out⟩
      · obtain rfl : k = N := by omega
        have hbody : bodies (L.take k) = body := by rw [List.take_of_length_le (by rw [HN.out]; omega), HBOD.out]
        have hob1 := hob.out
        rw [hbody] at hob1
        have hBw := hob1.bel
        have hfit : Fit body := HDX.out.bd.row.fit
        have v41 : wr.cell? ⟨w.heap.size, 41, none⟩ = some (.slice a3 nb c3) := vb41 (blk_on HVX.out hBw)
        have t1 : (convert 26 9 (.slice ab (bodies (L.take k)).length cb)).run Try.prog wr = .ok (.string (strOfNums body)) wr := by rw [hbody]; exact ((hob1.row hfit (by have := HNB.out; omega)).bytes).text
        have t2 : (convert 26 9 (.slice a3 nb c3)).run Try.prog wr = .ok (.string (strOfNums body)) wr := (HDX.out.on hBw).bd.row.bytes.text
        have HBE : Hid (Below w.heap.size w wr) := HX1.out.trans (hBw.mono HX1.out.size)
        clear hob hob1 hfit hBw hbody
        generalize (bodies (L.take k)).length = bl at *
        generalize strOfNums body = SS at *
        go_wp2
        go_ret
        exact ⟨rfl, HBE.out⟩
  | some er =>
    have HSP : Hid _ := Split_no g mtu id hD1 er he
    have hne := fragP_err he
    have q1 : (er != 0) = true := by simpa using hne
    have q1' : (er == 0) = false := by simpa using hne
    clear hne hD1 he hB1
    go_wp2_with first
      | ((with_reducible show wpList _ _ _ ({ dst := _, op := Op.load 28 (Operand.tmp 4), type := _, pos := _, after := _, guard := _ } :: _) _ _); refine armL (.tmp 4) 28 rfl rfl rfl HLD.out ?_)
    refine Calls.mono HSP.out ?_
    rintro e X1 ⟨rfl, hX1⟩
    have HX1 : Hid (Below w.heap.size w X1) := HB1.out.trans (hX1.mono HB1.out.size)
    clear hX1 HSP HLD
    go_wp2
    go_ret
    exact ⟨rfl, HX1.out⟩
end
theorem splitsixAgain_open {H : Type} {enc : TypeId × Value → H} {W : World} {base : Nat} (v0 v1 v2 v3 : Value) {d0 d1 d2 d3 : DataW H} {p0 p1 p2 p3 : List MemPlace}
    (o0 : Value.okWide Try.prog W .any base 28 v0) (h0 : DataW.Trod enc Try.prog W 0 (fun _ => true) true 28 v0 d0 p0) (z0 : ∀ k ∈ d0.weights Try.prog 28, k ≤ reachBytes)
    (o1 : Value.okWide Try.prog W .any base 3 v1) (h1 : DataW.Trod enc Try.prog W 0 (fun _ => true) true 3 v1 d1 p1) (z1 : ∀ k ∈ d1.weights Try.prog 3, k ≤ reachBytes)
    (o2 : Value.okWide Try.prog W .any base 3 v2) (h2 : DataW.Trod enc Try.prog W 0 (fun _ => true) true 3 v2 d2 p2) (z2 : ∀ k ∈ d2.weights Try.prog 3, k ≤ reachBytes)
    (o3 : Value.okWide Try.prog W .any base 22 v3) (h3 : DataW.Trod enc Try.prog W 0 (fun _ => true) true 22 v3 d3 p3) (z3 : ∀ k ∈ d3.weights Try.prog 22, k ≤ reachBytes) :
    Calls Try.prog 7 #[v0, v1, v2, v3] W fun e w' => e = .returned (.bool true) ∧ Below W.heap.size W w' := by
  obtain ⟨f, g, vh, vb, hs, body, rfl, hd, _⟩ := open_v6 h0 z0
  obtain ⟨k, rfl, _, _, wk⟩ := open_int Try.underlying3 o1 h1
  obtain ⟨l, rfl, _, _, wl⟩ := open_int Try.underlying3 o2 h2
  obtain ⟨i, rfl, _, _, wi⟩ := open_int Try.underlying22 o3 h3
  exact splitsixAgain_walk f g vh vb hs body k l i W hd (bounds_i64 wk)

end Go.Proofs.Ytcllcinekohklaa
