/-
  The document's Split.
-/
import Derived.Test.YtcllcinekohklaaXg2
namespace Go.Proofs.Ytcllcinekohklaa
open Go Go.RowKit
set_option linter.unusedVariables false
set_option linter.unusedSimpArgs false

theorem armB {P : Program} {w w2 : World} {ops : Array Oper} {rest : List Oper} {o : Oper} {a : Act} {Q : Exit → Act → World → Prop} (x : Operand) (t : TypeId) (hop : o.op = Op.buildSlice t 1 #[(0, x)]) (hg : o.guard = none) {vx v : Value} (hx : a.eval x = vx) (hrun : (Instr.buildSlice t 1 #[(0, vx)]).run P w = .ok v w2) (hK : wpList P ops Q rest (a.put o.dst v) w2) : wpList P ops Q (o :: rest) a w := by
  refine BigFrame.wpList_want (by simp [Region.wanted, hg]) fun K hK' => ?_
  unfold Oper.wp
  simp [execOp, hop, hx, hrun, Result.andThen]
  exact hK' _ _ hK
theorem cut_mid {S : Nat → Prop} {w : World} {v : Value} {zs : List Int} (h : BS S w v zs) (h0 : 0 < zs.length) (i n m : Nat) (hm : m = i + n) (hn : i + n ≤ zs.length) (hp : 0 < n) :
    ∃ u, (∀ W, (Instr.sliceAt 26 v (some (.int .i64 i)) (some (.int .i64 m)) none).run Try.prog W = .ok u W) ∧ BS S w u ((zs.drop i).take n) := by
  obtain ⟨b, off, cap, rfl, hc, hlt, hcell⟩ := h.row.some h0
  have hlen := h.row.len
  have hS : S b := by
    rcases h.loc with hl | ⟨b', off', n', k', e', hS⟩
    · omega
    · cases e'
      exact hS
  have e : ((zs.drop i).take n).length = n := by rw [List.length_take, List.length_drop]; omega
  refine ⟨.slice (some ⟨b, off + i, none⟩) n (cap - i), fun W => ?_, ⟨⟨fun z hz => h.row.fit z (List.mem_of_mem_drop (List.mem_of_mem_take hz)), by omega, _, cap - i, by rw [e], by omega, .inr ⟨b, off + i, rfl, hlt, fun j hj => ?_⟩⟩, .inr ⟨b, off + i, _, _, rfl, hS⟩⟩⟩
  · have i1 : m ≤ cap := by omega
    have i2 : i < cap := by omega
    have i3 : ¬ cap = i := by omega
    have i4 : i ≤ m := by omega
    have i5 : m - i = n := by omega
    have i6 : ¬ cap - i = 0 := by omega
    simp [Instr.sliceAt, go_sem, i1, i2, i3, i4, i5, i6]
  · rw [e] at hj
    rw [Nat.add_assoc, hcell (i + j) (by omega), gz, List.getElem?_take, if_pos hj, List.getElem?_drop]

/-- The fragments that are answered: none with an error. -/
def spL (en : Option Int) (L : List FG) : List FG := match en with | none => L | some _ => []
def RSpP (f : F6) (hs : Opts) (w : World) (en : Option Int) (L : List FG) (e : Ending) (w' : World) : Prop := ∃ v, e = .returned (.tuple #[v, .int .i64 (enE en)]) ∧ RowV f hs w.heap.size (fun _ => True) w' v (spL en L) ∧ Below w.heap.size w w'
theorem RSpP.no {f : F6} {hs : Opts} {w w' : World} {en : Option Int} {er : Int} {L : List FG} (he : en = some er) (hb : Below w.heap.size w w') : RSpP f hs w en L (.returned (.tuple #[.slice none 0 0, .int .i64 er])) w' := by
  subst he
  exact ⟨_, rfl, RowV.nil _ _ _ _ _, hb⟩
theorem RSpP.yes {f : F6} {hs : Opts} {w w' : World} {en : Option Int} {L L' : List FG} {v : Value} {base : Nat} {S : Nat → Prop} (he : en = none) (hL : L = L') (hr : RowV f hs base S w' v L') (hbs : w.heap.size ≤ base) (hb : Below w.heap.size w w') : RSpP f hs w en L (.returned (.tuple #[v, .int .i64 0])) w' := by
  subst he hL
  exact ⟨_, rfl, (hr.mono (fun _ _ _ => trivial)).lower hbs, hb⟩
theorem Split_any {S : Nat → Prop} {w : World} {f : F6} (g : G6) {vh vb : Value} {hs : Opts} {body : List Int} (mtu id : Int) (h : D6 S w f vh vb hs body) :
    Calls Try.prog 8 #[VV f g vh vb, .int .i64 mtu, .int .u32 id] w (RSpP f hs w (fragP f hs g body mtu id).2 (fragP f hs g body mtu id).1) := by
  cases he : (fragP f hs g body mtu id).2 with
  | none =>
    refine (Split_yes g mtu id h he).mono ?_
    rintro e w' ⟨v, rfl, hr, hb⟩
    exact RSpP.yes rfl rfl hr (Nat.le_refl _) hb
  | some er =>
    refine (Split_no g mtu id h er he).mono ?_
    rintro e w' ⟨rfl, hb⟩
    exact RSpP.no rfl hb
theorem RowV.one {f : F6} {hs : Opts} {base : Nat} {S : Nat → Prop} {W : World} {g : G6} {vh vb : Value} {body : List Int} (hb : base ≤ W.heap.size) (hd : D6 S W f vh vb hs body) : RowV f hs base S (W.alloc (BV f g vh vb)) (.slice (some ⟨W.heap.size, 0, none⟩) 1 1) [⟨g, body⟩] := by
  refine ⟨[(vh, vb)], rfl, ⟨by simp [flatV, vC_len], .inr ⟨W.heap.size, 1, (vC f g vh vb).toArray, rfl, hb, blk_new W _, Nat.le_refl _, by unfold maxLen; decide, by simp [vC_len], ?_⟩⟩, ?_⟩
  · simp only [flatV, List.append_nil]
    exact List.take_of_length_le (by rw [vC_len]; exact Nat.le_refl _)
  · intro j x p hx hp
    match j, hx, hp with
    | 0, hx, hp =>
      simp at hx hp
      subst hx hp
      exact hd.on ((Below.refl _ W).alloc (Nat.le_refl _) _)
    | j + 1, hx, hp => simp at hx
/-- The memory of the document's loop. -/
structure R6I (f : F6) (hs : Opts) (gh : G6) (vh vb : Value) (body : List Int) (w : World) (L : List FG) (k : Nat) (l : Value) (A : World) : Prop where
  vbx : A.heap[w.heap.size]? = some (BV f gh vh vb)
  row : RowV f hs (w.heap.size + 1) (fun c => l.ownBlock ≠ some c) A l (L.take k)
  dd : D6 (fun c => c < w.heap.size) A f vh vb hs body
  bel : Below w.heap.size w A
section
variable {f : F6} {hs : Opts} {gh : G6} {vh vb : Value} {body : List Int} {w : World} {L : List FG} {k : Nat} {l : Value} {A B : World}
theorem R6I.on (h : R6I f hs gh vh vb body w L k l A) (hb : Below A.heap.size A B) : R6I f hs gh vh vb body w L k l B :=
  ⟨blk_on h.vbx hb, h.row.on hb, h.dd.on hb, h.bel.trans (hb.mono h.bel.size)⟩
theorem R6I.app {x : FG} {sb' : Value} (h : R6I f hs gh vh vb body w L k l A) (hg : L[k]? = some x) (hl : L.length ≤ 100000) (hB : BS (fun c => l.ownBlock ≠ some c) A sb' x.body) (ty : TypeId) :
    ∃ l' B, (Builtin.append_ #[29, 29] ty #[l, .slice (some ⟨A.heap.size, 0, none⟩) 1 1]).run Try.prog (A.alloc (BV f x.g vh sb')) = .ok l' B ∧ R6I f hs gh vh vb body w L (k + 1) l' B := by
  have hk : (L.take k).length ≤ 100000 := by rw [List.length_take]; omega
  have hvl := (Array.getElem?_eq_some_iff.1 h.vbx).1
  have hdd : D6 (fun c => l.ownBlock ≠ some c) A f vh sb' hs x.body := ⟨h.dd.hd.mono (fun c _ hc e => by have := (h.row.lt e).1; omega), hB, h.dd.lab⟩
  obtain ⟨l', B, hrun, hrow, hsep, hat⟩ := (h.row.mono (S' := fun c => l.ownBlock ≠ some c ∧ c < A.heap.size) (fun c hc hh => ⟨hh, hc⟩)).push (fun c hc e => hc.1 e) (by omega) hk x (hdd.mono fun c hc hh => ⟨hh, hc⟩) ty
  have hne : ∀ c, l.ownBlock ≠ some c ∧ c < A.heap.size → l'.ownBlock ≠ some c := fun c hc e => by
    rcases hat with hat | hat
    · exact hc.1 (hat ▸ e)
    · rw [hat] at e
      cases e
      have := hc.2
      omega
  refine ⟨l', B, hrun, hsep.blk h.vbx (fun e => by have := (h.row.lt e).1; omega), ?_, h.dd.sep hsep (fun c hc e => by have := (h.row.lt e).1; omega), h.bel.trans (hsep.below h.bel.size (fun c hc e => by have := (h.row.lt e).1; omega))⟩
  rw [take_at' L k hg]
  exact hrow.mono (fun c _ hc => hne c hc)
end
theorem frag_copy {S : Nat → Prop} {A : World} {u : Value} {zs : List Int} (h : BS S A u zs) :
    ∃ c n W2, (Builtin.append_ #[26, 26] 26 #[.slice (some ⟨A.heap.size, 0, none⟩) 0 0, u]).run Try.prog (A.alloc (.cells #[] 5)) = .ok (.slice (some ⟨c, 0, none⟩) zs.length n) W2 ∧ Below A.heap.size A W2 ∧ BS (fun b => A.heap.size ≤ b) W2 (.slice (some ⟨c, 0, none⟩) zs.length n) zs := by
  have hB0 := (Below.refl A.heap.size A).alloc (Nat.le_refl _) (.cells #[] 5)
  obtain ⟨c, n, W2, hrun, hb, hc⟩ := copy_run h.row.bytes hB0 (B := A.heap.size) (Nat.le_refl _) (by simp) 26
  exact ⟨c, n, W2, hrun, hB0.trans (hb.mono hB0.size), hc.bs h.row.fit h.row.len⟩
section
variable {S : Nat → Prop} {w : World} {f : F6} (g : G6) {vh vb : Value} {hs : Opts} {body : List Int} (mtu id : Int)
set_option maxHeartbeats 4000000 in
set_option maxRecDepth 100000 in
theorem RSplit_any (hmt : -9223372036854775808 ≤ mtu ∧ mtu ≤ 9223372036854775807) (h : D6 S w f vh vb hs body) :
    Calls Try.prog 9 #[VV f g vh vb, .int .i64 mtu, .int .u32 id] w (RSpP f hs w (fragP f hs g body mtu id).2 (fragP f hs g body mtu id).1) := by
  obtain ⟨w0, hw0⟩ : ∃ w0, w0 = w.alloc (BV f g vh vb) := ⟨_, rfl⟩
  have hb0 : w0.heap[w.heap.size]? = some (BV f g vh vb) := by rw [hw0]; exact blk_new w (BV f g vh vb)
  have hB0 : Below w.heap.size w w0 := by rw [hw0]; exact (Below.refl w.heap.size w).alloc (Nat.le_refl _) (BV f g vh vb)
  have hd0 := (h.mono (S' := fun c => c < w.heap.size) (fun c hc _ => hc)).on hB0
  have HL0 : Hid _ := vb_load hb0
  have HV0 : Hid (w0.heap[w.heap.size]? = some (BV f g vh vb)) := hb0
  have HB0 : Hid (Below w.heap.size w w0) := hB0
  have HD0 : Hid (D6 (fun c => c < w.heap.size) w0 f vh vb hs body) := hd0
  have HFT : Hid _ := RFits_any g mtu hmt hd0
  have hW := hw0.symm
  obtain ⟨en, hen⟩ : ∃ en, en = (fragP f hs g body mtu id).2 := ⟨_, rfl⟩
  obtain ⟨L, hL⟩ : ∃ L, L = (fragP f hs g body mtu id).1 := ⟨_, rfl⟩
  have hLl := fragP_len f hs g body mtu id
  rw [← hen, ← hL]
  rw [← hL] at hLl
  have pre : True := trivial
  clear hb0 hB0 hw0 hd0
  unfold fragP at hen hL
  by_cases hE : fitE f hs g body.length mtu ≠ 0
  · rw [if_pos hE] at hen
    have hA : fitA f hs g body.length mtu = false := by unfold fitA; rw [if_neg hE]
    rw [hA] at HFT
    have q0 : (fitE f hs g body.length mtu != 0) = true := by simpa using hE
    have HEN : Hid _ := hen
    clear h hE hL hen hA
    generalize fitE f hs g body.length mtu = FE at *
    go_enter Try.func9, Try.ntmps9
    go_wp2_with first
      | ((with_reducible show wpList _ _ _ ({ dst := _, op := Op.load 28 (Operand.tmp 3), type := _, pos := _, after := _, guard := _ } :: _) _ _); refine armL (.tmp 3) 28 rfl rfl rfl HL0.out ?_)
    refine Calls.mono HFT.out ?_
    rintro e w2 ⟨rfl, hb2⟩
    have HB2 : Hid (Below w.heap.size w w2) := HB0.out.trans (hb2.mono HB0.out.size)
    clear hb2 HFT HL0 HV0 HD0 HB0 hW
    go_wp2
    go_ret2
    exact RSpP.no HEN.out HB2.out
  rw [if_neg hE] at hen hL
  have hE0 : fitE f hs g body.length mtu = 0 := by simpa using hE
  have hA : fitA f hs g body.length mtu = fitB hs g body.length mtu := by unfold fitA; rw [if_pos hE0]
  rw [hA, hE0] at HFT
  obtain ⟨hk0, hm1, hm2⟩ := fitE_zero hE0
  by_cases hF : fitB hs g body.length mtu = true
  · rw [if_pos hF] at hen hL
    rw [hF] at HFT
    have HEN : Hid (en = none) := hen
    have HLE : Hid (L = [⟨g, body⟩]) := hL
    clear h hE hL hen hA hF hE0 hk0
    go_enter Try.func9, Try.ntmps9
    go_wp2_with first
      | ((with_reducible show wpList _ _ _ ({ dst := _, op := Op.load 28 (Operand.tmp 3), type := _, pos := _, after := _, guard := _ } :: _) _ _); refine armL (.tmp 3) 28 rfl rfl rfl HL0.out ?_)
    refine Calls.mono HFT.out ?_
    rintro e w2 ⟨rfl, hb2⟩
    have HB2 : Hid (Below w.heap.size w w2) := HB0.out.trans (hb2.mono HB0.out.size)
    have HL2 : Hid _ := vb_load (blk_on HV0.out hb2)
    have hrow := RowV.one (g := g) HB2.out.size (HD0.out.on hb2)
    have HROW : Hid (RowV f hs w.heap.size (fun c => c < w.heap.size) (w2.alloc (BV f g vh vb)) (.slice (some ⟨w2.heap.size, 0, none⟩) 1 1) [⟨g, body⟩]) := hrow
    have HBE : Hid (Below w.heap.size w (w2.alloc (BV f g vh vb))) := HB2.out.alloc HB2.out.size _
    clear hb2 HFT HL0 HV0 HD0 HB0 hW hrow HB2
    go_wp2_with first
      | ((with_reducible show wpList _ _ _ ({ dst := _, op := Op.load 28 (Operand.tmp 3), type := _, pos := _, after := _, guard := _ } :: _) _ _); refine armL (.tmp 3) 28 rfl rfl rfl HL2.out ?_)
      | ((with_reducible show wpList _ _ _ ({ dst := _, op := Op.buildSlice 29 1 #[(0, Operand.tmp 27)], type := _, pos := _, after := _, guard := _ } :: _) _ _); refine armB (.tmp 27) 29 rfl rfl rfl (bs_run w2 f g vh vb) ?_)
    go_ret2
    exact RSpP.yes HEN.out HLE.out HROW.out (Nat.le_refl _) HBE.out
  have hF' : fitB hs g body.length mtu = false := by simpa using hF
  rw [if_neg hF] at hen hL
  rw [hF'] at HFT
  obtain ⟨a3, c3, hvb⟩ : ∃ a c, vb = .slice a body.length c := by obtain ⟨_, _, a, cap, e, _⟩ := h.bd.row; exact ⟨_, _, e⟩
  have hbl : body.length ≤ 70000 := by have := (ck_zero hk0).2; omega
  have HHD : Hid (∀ X, Below w0.heap.size w0 X → Calls Try.prog 26 #[VV f g vh vb] X fun e w' => e = .returned (.int .i64 (ahead6 hs true : Int)) ∧ Below X.heap.size X w') := fun X hX => R14heads_any g (HD0.out.on hX) hk0
  have hle := ahead6_le true (ck_zero hk0).1.2.1
  obtain ⟨nb, hnb⟩ : ∃ nb, body.length = nb := ⟨_, rfl⟩
  have HNB : Hid (body.length = nb) := hnb
  by_cases hM : g.more = true ∧ body.length % 8 ≠ 0
  · rw [if_pos hM] at hen
    have HEN : Hid (en = some 1) := hen
    have q8 : ((nb : Int) % 8 != 0) = true := by have h8 := hM.2; rw [hnb] at h8; simp; omega
    obtain ⟨hm, _⟩ := hM
    rw [hnb] at hvb
    subst hvb
    clear h hE hL hen hA hF hE0 hk0 hF' hbl HHD hle hnb hLl
    go_enter Try.func9, Try.ntmps9
    go_wp2_with first
      | ((with_reducible show wpList _ _ _ ({ dst := _, op := Op.load 28 (Operand.tmp 3), type := _, pos := _, after := _, guard := _ } :: _) _ _); refine armL (.tmp 3) 28 rfl rfl rfl HL0.out ?_)
    refine Calls.mono HFT.out ?_
    rintro e w2 ⟨rfl, hb2⟩
    have HB2 : Hid (Below w.heap.size w w2) := HB0.out.trans (hb2.mono HB0.out.size)
    have hv2 := blk_on HV0.out hb2
    have k39 := vb39 hv2
    have k41 := vb41 hv2
    rw [hm] at k39
    clear hb2 HFT HL0 HV0 HD0 HB0 hW hv2 hm
    go_wp2
    go_ret2
    exact RSpP.no HEN.out HB2.out
  rw [if_neg hM] at hen hL
  have q8 : g.more = true → ((nb : Int) % 8 != 0) = false := fun hm => by
    have h8 : body.length % 8 = 0 := by
      by_cases c : body.length % 8 = 0
      · exact c
      · exact absurd ⟨hm, c⟩ hM
    have : (nb : Int) % 8 = 0 := by omega
    simp [this]
  obtain ⟨AA, hAA⟩ : ∃ AA, ahead6 hs true = AA := ⟨_, rfl⟩
  rw [hAA] at hle HHD hen hL
  by_cases hS : mtu < (AA : Int) + 8
  · rw [if_pos hS] at hen
    have HEN : Hid (en = some 141) := hen
    obtain ⟨d, hd⟩ : ∃ d : Int, mtu - (AA : Int) = d := ⟨_, rfl⟩
    have w41 : IntKind.i64.wrap (mtu - (AA : Int)) = d := by rw [hd]; exact wrapi64 _ (by omega)
    have hdl : d < 8 := by omega
    have hdg : -100000 ≤ d := by omega
    rw [hnb] at hvb
    subst hvb
    obtain ⟨mr, hmr⟩ : ∃ mr, g.more = mr := ⟨_, rfl⟩
    rw [hmr] at q8
    have HMR : Hid _ := hmr
    clear h hE hL hen hA hF hE0 hk0 hF' hbl hnb hLl hM hS hd hAA hmr
    cases mr
    all_goals
      first | (have q8' := q8 rfl; clear q8) | clear q8
      go_enter Try.func9, Try.ntmps9
      go_wp2_with first
        | ((with_reducible show wpList _ _ _ ({ dst := _, op := Op.load 28 (Operand.tmp 3), type := _, pos := _, after := _, guard := _ } :: _) _ _); refine armL (.tmp 3) 28 rfl rfl rfl HL0.out ?_)
      refine Calls.mono HFT.out ?_
      rintro e w2 ⟨rfl, hb2⟩
      have HB2 : Hid (Below w.heap.size w w2) := HB0.out.trans (hb2.mono HB0.out.size)
      have hv2 := blk_on HV0.out hb2
      have k39 := vb39 hv2
      have k41 := vb41 hv2
      rw [HMR.out] at k39
      have HL2 : Hid _ := vb_load hv2
      have HH2 : Hid _ := HHD.out _ hb2
      clear hb2 HFT HL0 HV0 HD0 HB0 hW hv2 HHD
      go_wp2_with first
        | ((with_reducible show wpList _ _ _ ({ dst := _, op := Op.load 28 (Operand.tmp 3), type := _, pos := _, after := _, guard := _ } :: _) _ _); refine armL (.tmp 3) 28 rfl rfl rfl HL2.out ?_)
      refine Calls.mono HH2.out ?_
      rintro e w3 ⟨rfl, hb3⟩
      have HB3 : Hid (Below w.heap.size w w3) := HB2.out.trans (hb3.mono HB2.out.size)
      clear hb3 HH2 HL2 HB2 k39 k41
      go_wp2
      go_ret2
      exact RSpP.no HEN.out HB3.out
  rw [if_neg hS] at hen hL
  obtain ⟨sp, hsp⟩ : ∃ sp : Nat, spN hs mtu = sp := ⟨_, rfl⟩
  have hsv : (sp : Int) = mtu - (AA : Int) := by rw [← hsp]; unfold spN; omega
  obtain ⟨nn, hnn⟩ : ∃ nn : Nat, sp / 8 * 8 = nn := ⟨_, rfl⟩
  rw [hsp, hnn] at hen hL
  obtain ⟨gh, hgh⟩ : ∃ gh, hdG g id = gh := ⟨_, rfl⟩
  rw [hgh] at hen hL
  have hgo : 0 ≤ gh.off ∧ gh.off ≤ 8191 := by rw [← hgh, hdG_off]; exact ck_off hk0
  have hs8 : 8 ≤ sp := by omega
  have hn8 : 8 ≤ nn := by omega
  have hnsp : nn ≤ sp := by omega
  have hspm : sp ≤ 65535 := by omega
  have hnd : nn % 8 = 0 := by omega
  have hbp : 0 < nb := by
    unfold fitB at hF'
    simp at hF'
    have : ahead6 hs g.fr ≤ AA := by rw [← hAA]; unfold ahead6; cases g.fr <;> simp
    omega
  have HST0 : Hid (L = (frs sp nn gh nb gh.off body).1 ∧ en = (frs sp nn gh nb gh.off body).2) := ⟨by rw [hL, hnb], by rw [hen, hnb]⟩
  have w41 : IntKind.i64.wrap (mtu - (AA : Int)) = (sp : Int) := by rw [← hsv]; exact wrapi64 _ (by omega)
  have w43 : (sp : Int) / 8 * 8 = (nn : Int) := by omega
  have w44 : IntKind.i64.wrap ((sp : Int) / 8 * 8) = (nn : Int) := by rw [w43]; exact wrapi64 _ (by omega)
  rw [hnb] at hvb
  subst hvb
  obtain ⟨mr, hmr⟩ : ∃ mr, g.more = mr := ⟨_, rfl⟩
  rw [hmr] at q8
  have HMR : Hid _ := hmr
  have HGH : Hid (hdG g id = gh) := hgh
  have HO1 : Hid (vh.oneCell' = true) := h.hd.one
  rw [hnb] at hbl
  clear h hE hL hen hA hF hE0 hk0 hF' hnb hM hS hAA hmr hsp hnn hgh hsv
  have hLl' : L.length ≤ 100000 := by omega
  have main : ∀ w5 : World, R6I f hs gh vh (.slice a3 nb c3) body w L 0 (.slice none 0 0) w5 → True := fun _ _ => trivial
  clear main
  cases mr
  · first | (have q8' := q8 rfl; clear q8) | clear q8
    go_enter Try.func9, Try.ntmps9
    go_wp2_with first
      | ((with_reducible show wpList _ _ _ ({ dst := _, op := Op.load 28 (Operand.tmp 3), type := _, pos := _, after := _, guard := _ } :: _) _ _); refine armL (.tmp 3) 28 rfl rfl rfl HL0.out ?_)
    refine Calls.mono HFT.out ?_
    rintro e w2 ⟨rfl, hb2⟩
    have HB2 : Hid (Below w.heap.size w w2) := HB0.out.trans (hb2.mono HB0.out.size)
    have hv2 := blk_on HV0.out hb2
    have k39 := vb39 hv2
    have k41 := vb41 hv2
    rw [HMR.out] at k39
    have HL2 : Hid _ := vb_load hv2
    have HV2 : Hid (w2.heap[w.heap.size]? = some (BV f g vh (.slice a3 nb c3))) := hv2
    have HD2 : Hid (D6 (fun c => c < w.heap.size) w2 f vh (.slice a3 nb c3) hs body) := HD0.out.on hb2
    have HH2 : Hid _ := HHD.out _ hb2
    clear hb2 HFT HL0 HV0 HD0 HB0 hW hv2 HHD
    go_wp2_with first
      | ((with_reducible show wpList _ _ _ ({ dst := _, op := Op.load 28 (Operand.tmp 3), type := _, pos := _, after := _, guard := _ } :: _) _ _); refine armL (.tmp 3) 28 rfl rfl rfl HL2.out ?_)
    refine Calls.mono HH2.out ?_
    rintro e w3 ⟨rfl, hb3⟩
    have HB3 : Hid (Below w.heap.size w w3) := HB2.out.trans (hb3.mono HB2.out.size)
    have hv3 := blk_on HV2.out hb3
    have hD3 := HD2.out.on hb3
    obtain ⟨fr, hfr⟩ : ∃ fr, g.fr = fr := ⟨_, rfl⟩
    have k36 := vb36 hv3
    rw [hfr] at k36
    have hpre : ∃ w5, (fr = true → w5 = w3) ∧ (fr = false → ∃ w4, (Instr.storeAt 4 (.pointer (some ⟨w.heap.size, 36, none⟩)) (.bool true)).run Try.prog w3 = .ok () w4 ∧ (Instr.storeAt 22 (.pointer (some ⟨w.heap.size, 37, none⟩)) (.int .u32 id)).run Try.prog w4 = .ok () w5) ∧ R6I f hs gh vh (.slice a3 nb c3) body w L 0 (.slice none 0 0) w5 := by
      cases fr with
      | true =>
        have e : gh = g := by rw [← HGH.out]; unfold hdG; rw [if_pos hfr]
        refine ⟨w3, fun _ => rfl, fun h => Bool.noConfusion h, by rw [e]; exact hv3, ?_, hD3, HB3.out⟩
        rw [List.take_zero]; exact RowV.nil _ _ _ _ _
      | false =>
        have e : gh = { g with fr := true, id := id } := by rw [← HGH.out]; unfold hdG; rw [hfr]; rfl
        have hon4 : Only w.heap.size w3 ((w3.setCell ⟨w.heap.size, 36, none⟩ (.bool true)).setCell ⟨w.heap.size, 37, none⟩ (.int .u32 id)) := ((Only.refl _ w3).set 36 _).set 37 _
        refine ⟨_, fun h => Bool.noConfusion h, fun _ => ⟨_, st_bool hv3 (show 36 < _ by rw [vC_len]; omega) true, st_u32 (vs36 hv3 true) (show 37 < _ by rw [vC_len]; omega) id⟩, ?_, ?_, hD3.sep (Sep.of_only (O := fun b => b = w.heap.size) hon4 rfl) (fun b hb e => by omega), HB3.out.trans (hon4.below (Nat.le_refl _))⟩
        · rw [e]; exact vs37 (vs36 hv3 true) id
        · rw [List.take_zero]; exact RowV.nil _ _ _ _ _
    obtain ⟨w5, hp1, hp2, hI5⟩ := hpre
    have k41' := vb41 hI5.vbx
    have HI5 : Hid (R6I f hs gh vh (.slice a3 nb c3) body w L 0 (.slice none 0 0) w5) := hI5
    clear hb3 HH2 HL2 HB2 k39 k41 hv3 hD3 HV2 HD2 hfr hI5
    have loopc : True := trivial
    cases fr
    · obtain ⟨w4, hst4, hst5⟩ := hp2 rfl
      have H4 : Hid _ := hst4
      have H5 : Hid _ := hst5
      clear hp1 hp2 hst4 hst5
      go_wp2_with first
        | ((with_reducible show wpList _ _ _ ({ dst := _, op := Op.store 4 (Operand.tmp 51) _, type := _, pos := _, after := _, guard := _ } :: _) _ _); refine armS (.tmp 51) (.const (.bool true)) 4 rfl rfl rfl rfl H4.out ?_; simp only [Act.put])
        | ((with_reducible show wpList _ _ _ ({ dst := _, op := Op.store 22 (Operand.tmp 52) (Operand.tmp 50), type := _, pos := _, after := _, guard := _ } :: _) _ _); refine armS (.tmp 52) (Operand.tmp 50) 22 rfl rfl rfl rfl H5.out ?_; simp only [Act.put])
      go_loopw [12, 14] (fun l i wr => ∃ k q n p : Nat, i = .int .i64 p ∧ p ≤ nb ∧ Hid (p = 8 * q) ∧ Hid ((gh.off + (q : Int) ≤ 8191 ∧ L.drop k = (frs sp nn gh n (gh.off + (q : Int)) (body.drop p)).1 ∧ en = (frs sp nn gh n (gh.off + (q : Int)) (body.drop p)).2 ∧ (body.drop p).length ≤ n) ∨ (8191 < gh.off + (q : Int) ∧ en = some 5)) ∧ Hid (R6I f hs gh vh (.slice a3 nb c3) body w L k l wr)) (fun _ i _ => nb - (intOf i).toNat)
      case atStart => exact ⟨0, 0, nb, 0, rfl, Nat.zero_le _, rfl, .inl ⟨by simp; exact hgo.2, by simpa using HST0.out.1, by simpa using HST0.out.2, by simp [HNB.out]⟩, HI5.out⟩
      case round =>
        obtain ⟨k, q, n, p, rfl, hp, hpq, hst, hI⟩ := hrel
        have hIo := hI.out
        have HIO : Hid (R6I f hs gh vh (.slice a3 nb c3) body w L k u12 wr) := hIo
        have HLV : Hid _ := vb_load hIo.vbx
        obtain ⟨w6, hst6, hbx6, hB6, hs6⟩ := vb_new wr f gh (vh := vh) (vb := .slice a3 nb c3) hIo.dd.hd.one rfl
        unfold zeroV at hst6
        have v38 : w6.cell? ⟨w.heap.size, 38, none⟩ = some (.int .i64 gh.off) := vb38 (blk_on hIo.vbx hB6)
        obtain ⟨of, hof⟩ : ∃ of : Int, gh.off + (q : Int) = of := ⟨_, rfl⟩
        rw [hof] at hst
        obtain ⟨w7, hst7, hbx7, hon7⟩ : ∃ w7, (Instr.storeAt 3 (.pointer (some ⟨wr.heap.size, 38, none⟩)) (.int .i64 of)).run Try.prog w6 = .ok () w7 ∧ w7.heap[wr.heap.size]? = some (BV f { gh with off := of } vh (.slice a3 nb c3)) ∧ Only wr.heap.size w6 w7 := ⟨_, st_int hbx6 (show 38 < _ by rw [vC_len]; omega) of, vs38 hbx6 of, (Only.refl _ w6).set 38 _⟩
        have hB7 : Below wr.heap.size wr w7 := hB6.trans (hon7.below (Nat.le_refl _))
        have k38 : w7.cell? ⟨wr.heap.size, 38, none⟩ = some (.int .i64 of) := vb38 hbx7
        have hpq' := hpq.out
        have w62 : ((p : Nat) : Int) / 8 = (q : Int) := by omega
        have w63 : IntKind.i64.wrap (gh.off + (q : Int)) = of := by rw [hof]; exact wrapi64 _ (by omega)
        have H6 : Hid _ := hst6
        have H7 : Hid _ := hst7
        have HX7 : Hid (w7.heap[wr.heap.size]? = some (BV f { gh with off := of } vh (.slice a3 nb c3))) := hbx7
        have HB7 : Hid (Below wr.heap.size wr w7) := hB7
        have hls : ∃ x n m, u12 = .slice x n m := by obtain ⟨a, c, e⟩ := hIo.row.slc; exact ⟨_, _, _, e⟩
        have HOF : Hid (gh.off + (q : Int) = of) := hof
        have hofb : 0 ≤ of ∧ of ≤ 100000 := by omega
        clear hst6 hbx6 hB6 hs6 hst7 hbx7 hon7 hB7 hIo hI hof hpq'
        obtain ⟨xl, nl, ml, rfl⟩ := hls
        by_cases hfar : 8191 < of
        · have q2 : decide (8191 < of) = true := by simpa using hfar
          have HEN : Hid (en = some 5) := by
            rcases hst.out with h | h
            · omega
            · exact h.2
          have HBE : Hid (Below w.heap.size w w7) := (HIO.out.on HB7.out).bel
          clear hst HIO HX7 HB7
          go_wp2_with first
            | ((with_reducible show wpList _ _ _ ({ dst := _, op := Op.load 28 (Operand.tmp 3), type := _, pos := _, after := _, guard := _ } :: _) _ _); refine armL (.tmp 3) 28 rfl rfl rfl HLV.out ?_)
            | ((with_reducible show wpList _ _ _ ({ dst := _, op := Op.store 28 (Operand.tmp 15) (Operand.tmp 58), type := _, pos := _, after := _, guard := _ } :: _) _ _); refine armS (.tmp 15) (Operand.tmp 58) 28 rfl rfl rfl rfl H6.out ?_; simp only [Act.put])
            | ((with_reducible show wpList _ _ _ ({ dst := _, op := Op.store 3 (Operand.tmp 64) (Operand.tmp 63), type := _, pos := _, after := _, guard := _ } :: _) _ _); refine armS (.tmp 64) (Operand.tmp 63) 3 rfl rfl rfl rfl H7.out ?_; simp only [Act.put])
          go_ret2
          exact RSpP.no HEN.out HBE.out
        · have q2 : decide (8191 < of) = false := by simpa using hfar
          obtain ⟨_, hdr, hen, hln⟩ : of ≤ 8191 ∧ L.drop k = (frs sp nn gh n of (body.drop p)).1 ∧ en = (frs sp nn gh n of (body.drop p)).2 ∧ (body.drop p).length ≤ n := by
            rcases hst.out with h | h
            · exact h
            · omega
          have hdl : (body.drop p).length = nb - p := by rw [List.length_drop, HNB.out]
          obtain ⟨r, hr⟩ : ∃ r : Nat, nb - p = r := ⟨_, rfl⟩
          have w71 : IntKind.i64.wrap ((nb : Int) - (p : Int)) = (r : Int) := by rw [show (nb : Int) - (p : Int) = (r : Int) by omega]; exact wrapi64 _ (by omega)
          have e71 : (nb : Int) - (p : Int) = (r : Int) := by omega
          have hI7 := HIO.out.on HB7.out
          have hw7 := HB7.out.size
          have hbxl := (Array.getElem?_eq_some_iff.1 HX7.out).1
          by_cases hfit : r ≤ sp
          · have q3 : decide ((r : Int) ≤ (sp : Int)) = true := by simp; omega
            rw [frs_fits (by omega)] at hdr hen
            obtain ⟨hLk, hLd, hkL⟩ := drop_at hdr
            have hLe : L = L.take (k + 1) := by
              have := congrArg List.length hdr
              rw [List.length_drop] at this
              simp at this
              rw [List.take_of_length_le (by omega)]
            obtain ⟨u1, hu1, hbu1⟩ := cut_rest hI7.dd.bd (by rw [HNB.out]; exact hbp) p (by rw [HNB.out]; exact hp)
            obtain ⟨cc, cn, w8, hrun8, hB8, hbs8⟩ := frag_copy hbu1
            rw [hdl, hr] at hrun8 hbs8
            obtain ⟨w9, hst9, hbx9, hon9⟩ : ∃ w9, (Instr.storeAt 26 (.pointer (some ⟨wr.heap.size, 41, none⟩)) (.slice (some ⟨cc, 0, none⟩) r cn)).run Try.prog w8 = .ok () w9 ∧ w9.heap[wr.heap.size]? = some (BV f { gh with off := of } vh (.slice (some ⟨cc, 0, none⟩) r cn)) ∧ Only wr.heap.size w8 w9 := ⟨_, st_row (blk_on HX7.out hB8) (show 41 < _ by rw [vC_len]; omega) ⟨_, _, _, rfl⟩, vs41 (blk_on HX7.out hB8) _, (Only.refl _ w8).set 41 _⟩
            have hB9 : Below wr.heap.size wr w9 := (HB7.out.trans (hB8.mono hw7)).trans (hon9.below (Nat.le_refl _))
            have hbs9 : BS (fun c => (Value.slice xl nl ml).ownBlock ≠ some c) w9 (.slice (some ⟨cc, 0, none⟩) r cn) (body.drop p) := (hbs8.sep (Sep.of_only (O := fun b => b = wr.heap.size) hon9 rfl) (fun c hc e => by omega)).mono (fun c _ hc e => by have := (HIO.out.row.lt e).2; omega)
            obtain ⟨l', wf, hrunf, hIf⟩ := (HIO.out.on hB9).app hLk hLl' (sb' := .slice (some ⟨cc, 0, none⟩) r cn) hbs9 29
            have HLX : Hid _ := vb_load hbx9
            have HBR : Hid _ := bs_run w9 f { gh with off := of } vh (.slice (some ⟨cc, 0, none⟩) r cn)
            have HR8 : Hid _ := hrun8
            have HRF : Hid _ := hrunf
            have H9 : Hid _ := hst9
            have HU1 : Hid _ := hu1
            have HFIN : Hid (RSpP f hs w en L (.returned (.tuple #[l', .int .i64 0])) wf) := RSpP.yes hen hLe hIf.row (Nat.le_succ _) hIf.bel
            have hls' : ∃ x n m, l' = .slice x n m := by obtain ⟨a, c, e⟩ := hIf.row.slc; exact ⟨_, _, _, e⟩
            obtain ⟨xf, nf, mf, rfl⟩ := hls'
            clear hdr hen hLk hLd hkL hLe hu1 hbu1 hrun8 hB8 hbs8 hst9 hbx9 hon9 hB9 hbs9 hrunf hIf hI7 hw7 hbxl hdl hst HIO HX7 HB7 hr hln
            go_wp2_with first
              | ((with_reducible show wpList _ _ _ ({ dst := _, op := Op.load 28 (Operand.tmp 3), type := _, pos := _, after := _, guard := _ } :: _) _ _); refine armL (.tmp 3) 28 rfl rfl rfl HLV.out ?_)
              | ((with_reducible show wpList _ _ _ ({ dst := _, op := Op.store 28 (Operand.tmp 15) (Operand.tmp 58), type := _, pos := _, after := _, guard := _ } :: _) _ _); refine armS (.tmp 15) (Operand.tmp 58) 28 rfl rfl rfl rfl H6.out ?_; simp only [Act.put])
              | ((with_reducible show wpList _ _ _ ({ dst := _, op := Op.store 3 (Operand.tmp 64) (Operand.tmp 63), type := _, pos := _, after := _, guard := _ } :: _) _ _); refine armS (.tmp 64) (Operand.tmp 63) 3 rfl rfl rfl rfl H7.out ?_; simp only [Act.put])
              | ((with_reducible show wpList _ _ _ ({ dst := _, op := Op.slice 26 (Operand.tmp 76) (some (Operand.tmp 77)) none none, type := _, pos := _, after := _, guard := _ } :: _) _ _); refine arm_slice rfl 26 (.tmp 76) (some (Operand.tmp 77)) none rfl rfl rfl rfl (HU1.out _) ?_)
              | (at_builtin; refine wpList_append_run rfl _ _ _ _ rfl rfl rfl HR8.out ?_; clear HR8)
              | ((with_reducible show wpList _ _ _ ({ dst := _, op := Op.store 26 (Operand.tmp 80) (Operand.tmp 79), type := _, pos := _, after := _, guard := _ } :: _) _ _); refine armS (.tmp 80) (Operand.tmp 79) 26 rfl rfl rfl rfl H9.out ?_; simp only [Act.put])
              | ((with_reducible show wpList _ _ _ ({ dst := _, op := Op.load 28 (Operand.tmp 15), type := _, pos := _, after := _, guard := _ } :: _) _ _); refine armL (.tmp 15) 28 rfl rfl rfl HLX.out ?_)
              | ((with_reducible show wpList _ _ _ ({ dst := _, op := Op.buildSlice 29 1 #[(0, Operand.tmp 82)], type := _, pos := _, after := _, guard := _ } :: _) _ _); refine armB (.tmp 82) 29 rfl rfl rfl HBR.out ?_)
              | (at_builtin; refine wpList_append_run rfl _ _ _ _ rfl rfl rfl HRF.out ?_; clear HRF)
            go_ret2
            exact HFIN.out
          · have q3 : decide ((r : Int) ≤ (sp : Int)) = false := by simp; omega
            have q3' : ¬ (r : Int) ≤ (sp : Int) := by omega
            have hnf : ¬ (body.drop p).length ≤ sp := by omega
            obtain ⟨m, hm⟩ : ∃ m : Nat, p + nn = m := ⟨_, rfl⟩
            have hmb : m ≤ nb := by omega
            have e90 : (p : Int) + (nn : Int) = (m : Int) := by omega
            have w90 : IntKind.i64.wrap ((p : Int) + (nn : Int)) = (m : Int) := by rw [e90]; exact wrapi64 _ (by omega)
            have hdd : (body.drop p).drop nn = body.drop m := by rw [List.drop_drop, hm]
            obtain ⟨hLk, hnext⟩ : L[k]? = some ⟨{ gh with off := of, more := true }, (body.drop p).take nn⟩ ∧ ∃ n' : Nat, (of + ((nn / 8 : Nat) : Int) ≤ 8191 ∧ L.drop (k + 1) = (frs sp nn gh n' (of + ((nn / 8 : Nat) : Int)) (body.drop m)).1 ∧ en = (frs sp nn gh n' (of + ((nn / 8 : Nat) : Int)) (body.drop m)).2 ∧ (body.drop m).length ≤ n') ∨ (8191 < of + ((nn / 8 : Nat) : Int) ∧ en = some 5) := by
              by_cases ho : of + ((nn / 8 : Nat) : Int) ≤ 8191
              · obtain ⟨n', h1, h2, h3⟩ := frs_step (g := gh) hnf hn8 hln ho
                rw [h2] at hdr
                rw [hdd] at h1 h3 hdr
                exact ⟨(drop_at hdr).1, n', .inl ⟨ho, (drop_at hdr).2.1, hen.trans h3, h1⟩⟩
              · rw [frs_far hnf hln ho] at hdr hen
                exact ⟨(drop_at hdr).1, 0, .inr ⟨by omega, hen⟩⟩
            obtain ⟨n', hnext⟩ := hnext
            have htl : ((body.drop p).take nn).length = nn := by rw [List.length_take]; omega
            obtain ⟨u1, hu1, hbu1⟩ := cut_mid hI7.dd.bd (by rw [HNB.out]; exact hbp) p nn m hm.symm (by rw [HNB.out]; omega) (by omega)
            obtain ⟨cc, cn, w8, hrun8, hB8, hbs8⟩ := frag_copy hbu1
            rw [htl] at hrun8 hbs8
            obtain ⟨w9, hst9, hbx9, hon9⟩ : ∃ w9, (Instr.storeAt 26 (.pointer (some ⟨wr.heap.size, 41, none⟩)) (.slice (some ⟨cc, 0, none⟩) nn cn)).run Try.prog w8 = .ok () w9 ∧ w9.heap[wr.heap.size]? = some (BV f { gh with off := of } vh (.slice (some ⟨cc, 0, none⟩) nn cn)) ∧ Only wr.heap.size w8 w9 := ⟨_, st_row (blk_on HX7.out hB8) (show 41 < _ by rw [vC_len]; omega) ⟨_, _, _, rfl⟩, vs41 (blk_on HX7.out hB8) _, (Only.refl _ w8).set 41 _⟩
            obtain ⟨wa, hsta, hbxa, hona⟩ : ∃ wa, (Instr.storeAt 4 (.pointer (some ⟨wr.heap.size, 39, none⟩)) (.bool true)).run Try.prog w9 = .ok () wa ∧ wa.heap[wr.heap.size]? = some (BV f { gh with off := of, more := true } vh (.slice (some ⟨cc, 0, none⟩) nn cn)) ∧ Only wr.heap.size w9 wa := ⟨_, st_bool hbx9 (show 39 < _ by rw [vC_len]; omega) true, vs39 hbx9 true, (Only.refl _ w9).set 39 _⟩
            have hon := hon9.trans hona
            have hBa : Below wr.heap.size wr wa := (HB7.out.trans (hB8.mono hw7)).trans (hon.below (Nat.le_refl _))
            have hbsa : BS (fun c => (Value.slice xl nl ml).ownBlock ≠ some c) wa (.slice (some ⟨cc, 0, none⟩) nn cn) ((body.drop p).take nn) := (hbs8.sep (Sep.of_only (O := fun b => b = wr.heap.size) hon rfl) (fun c hc e => by omega)).mono (fun c _ hc e => by have := (HIO.out.row.lt e).2; omega)
            obtain ⟨l', wf, hrunf, hIf⟩ := (HIO.out.on hBa).app hLk hLl' (sb' := .slice (some ⟨cc, 0, none⟩) nn cn) hbsa 29
            have HLX : Hid _ := vb_load hbxa
            have HBR : Hid _ := bs_run wa f { gh with off := of, more := true } vh (.slice (some ⟨cc, 0, none⟩) nn cn)
            have HR8 : Hid _ := hrun8
            have HRF : Hid _ := hrunf
            have H9 : Hid _ := hst9
            have HA : Hid _ := hsta
            have HU1 : Hid _ := hu1
            have HIF : Hid (R6I f hs gh vh (.slice a3 nb c3) body w L (k + 1) l' wf) := hIf
            obtain ⟨qn, hqn⟩ : ∃ qn : Nat, nn / 8 = qn := ⟨_, rfl⟩
            rw [hqn] at hnext
            have hmq : Hid (m = 8 * (q + qn)) := by show m = _; have := hpq.out; omega
            have HNX : Hid ((gh.off + ((q + qn : Nat) : Int) ≤ 8191 ∧ L.drop (k + 1) = (frs sp nn gh n' (gh.off + ((q + qn : Nat) : Int)) (body.drop m)).1 ∧ en = (frs sp nn gh n' (gh.off + ((q + qn : Nat) : Int)) (body.drop m)).2 ∧ (body.drop m).length ≤ n') ∨ (8191 < gh.off + ((q + qn : Nat) : Int) ∧ en = some 5)) := by
              have e : gh.off + ((q + qn : Nat) : Int) = of + (qn : Int) := by have := HOF.out; omega
              show _ ∨ _
              rw [e]
              exact hnext
            have hls' : ∃ x n m, l' = .slice x n m := by obtain ⟨a, c, e⟩ := hIf.row.slc; exact ⟨_, _, _, e⟩
            obtain ⟨xf, nf, mf, rfl⟩ := hls'
            have HM : Hid _ := hm
            clear hdr hen hLk hnext hu1 hbu1 hrun8 hB8 hbs8 hst9 hbx9 hon9 hsta hbxa hona hon hBa hbsa hrunf hIf hI7 hw7 hbxl hdl hst HIO HX7 HB7 hr hln hnf hdd htl hqn hm
            go_wp2_with first
              | ((with_reducible show wpList _ _ _ ({ dst := _, op := Op.load 28 (Operand.tmp 3), type := _, pos := _, after := _, guard := _ } :: _) _ _); refine armL (.tmp 3) 28 rfl rfl rfl HLV.out ?_)
              | ((with_reducible show wpList _ _ _ ({ dst := _, op := Op.store 28 (Operand.tmp 15) (Operand.tmp 58), type := _, pos := _, after := _, guard := _ } :: _) _ _); refine armS (.tmp 15) (Operand.tmp 58) 28 rfl rfl rfl rfl H6.out ?_; simp only [Act.put])
              | ((with_reducible show wpList _ _ _ ({ dst := _, op := Op.store 3 (Operand.tmp 64) (Operand.tmp 63), type := _, pos := _, after := _, guard := _ } :: _) _ _); refine armS (.tmp 64) (Operand.tmp 63) 3 rfl rfl rfl rfl H7.out ?_; simp only [Act.put])
              | ((with_reducible show wpList _ _ _ ({ dst := _, op := Op.slice 26 (Operand.tmp 86) (some (Operand.tmp 87)) (some (Operand.tmp 90)) none, type := _, pos := _, after := _, guard := _ } :: _) _ _); refine arm_slice rfl 26 (.tmp 86) (some (Operand.tmp 87)) (some (Operand.tmp 90)) rfl rfl rfl rfl (HU1.out _) ?_)
              | (at_builtin; refine wpList_append_run rfl _ _ _ _ rfl rfl rfl HR8.out ?_; clear HR8)
              | ((with_reducible show wpList _ _ _ ({ dst := _, op := Op.store 26 (Operand.tmp 93) (Operand.tmp 92), type := _, pos := _, after := _, guard := _ } :: _) _ _); refine armS (.tmp 93) (Operand.tmp 92) 26 rfl rfl rfl rfl H9.out ?_; simp only [Act.put])
              | ((with_reducible show wpList _ _ _ ({ dst := _, op := Op.store 4 (Operand.tmp 94) _, type := _, pos := _, after := _, guard := _ } :: _) _ _); refine armS (.tmp 94) (.const (.bool true)) 4 rfl rfl rfl rfl HA.out ?_; simp only [Act.put])
              | ((with_reducible show wpList _ _ _ ({ dst := _, op := Op.load 28 (Operand.tmp 15), type := _, pos := _, after := _, guard := _ } :: _) _ _); refine armL (.tmp 15) 28 rfl rfl rfl HLX.out ?_)
              | ((with_reducible show wpList _ _ _ ({ dst := _, op := Op.buildSlice 29 1 #[(0, Operand.tmp 96)], type := _, pos := _, after := _, guard := _ } :: _) _ _); refine armB (.tmp 96) 29 rfl rfl rfl HBR.out ?_)
              | (at_builtin; refine wpList_append_run rfl _ _ _ _ rfl rfl rfl HRF.out ?_; clear HRF)
            exact ⟨⟨k + 1, q + qn, n', m, rfl, hmb, hmq, HNX.out, HIF.out⟩, by simp [intOf]; have := HM.out; omega⟩
    · obtain rfl := hp1 rfl
      clear hp1 hp2
      have k41 := k41'
      go_wp2_with fail
      go_loopw [12, 14] (fun l i wr => ∃ k q n p : Nat, i = .int .i64 p ∧ p ≤ nb ∧ Hid (p = 8 * q) ∧ Hid ((gh.off + (q : Int) ≤ 8191 ∧ L.drop k = (frs sp nn gh n (gh.off + (q : Int)) (body.drop p)).1 ∧ en = (frs sp nn gh n (gh.off + (q : Int)) (body.drop p)).2 ∧ (body.drop p).length ≤ n) ∨ (8191 < gh.off + (q : Int) ∧ en = some 5)) ∧ Hid (R6I f hs gh vh (.slice a3 nb c3) body w L k l wr)) (fun _ i _ => nb - (intOf i).toNat)
      case atStart => exact ⟨0, 0, nb, 0, rfl, Nat.zero_le _, rfl, .inl ⟨by simp; exact hgo.2, by simpa using HST0.out.1, by simpa using HST0.out.2, by simp [HNB.out]⟩, HI5.out⟩
      case round =>
        obtain ⟨k, q, n, p, rfl, hp, hpq, hst, hI⟩ := hrel
        have hIo := hI.out
        have HIO : Hid (R6I f hs gh vh (.slice a3 nb c3) body w L k u12 wr) := hIo
        have HLV : Hid _ := vb_load hIo.vbx
        obtain ⟨w6, hst6, hbx6, hB6, hs6⟩ := vb_new wr f gh (vh := vh) (vb := .slice a3 nb c3) hIo.dd.hd.one rfl
        unfold zeroV at hst6
        have v38 : w6.cell? ⟨w.heap.size, 38, none⟩ = some (.int .i64 gh.off) := vb38 (blk_on hIo.vbx hB6)
        obtain ⟨of, hof⟩ : ∃ of : Int, gh.off + (q : Int) = of := ⟨_, rfl⟩
        rw [hof] at hst
        obtain ⟨w7, hst7, hbx7, hon7⟩ : ∃ w7, (Instr.storeAt 3 (.pointer (some ⟨wr.heap.size, 38, none⟩)) (.int .i64 of)).run Try.prog w6 = .ok () w7 ∧ w7.heap[wr.heap.size]? = some (BV f { gh with off := of } vh (.slice a3 nb c3)) ∧ Only wr.heap.size w6 w7 := ⟨_, st_int hbx6 (show 38 < _ by rw [vC_len]; omega) of, vs38 hbx6 of, (Only.refl _ w6).set 38 _⟩
        have hB7 : Below wr.heap.size wr w7 := hB6.trans (hon7.below (Nat.le_refl _))
        have k38 : w7.cell? ⟨wr.heap.size, 38, none⟩ = some (.int .i64 of) := vb38 hbx7
        have hpq' := hpq.out
        have w62 : ((p : Nat) : Int) / 8 = (q : Int) := by omega
        have w63 : IntKind.i64.wrap (gh.off + (q : Int)) = of := by rw [hof]; exact wrapi64 _ (by omega)
        have H6 : Hid _ := hst6
        have H7 : Hid _ := hst7
        have HX7 : Hid (w7.heap[wr.heap.size]? = some (BV f { gh with off := of } vh (.slice a3 nb c3))) := hbx7
        have HB7 : Hid (Below wr.heap.size wr w7) := hB7
        have hls : ∃ x n m, u12 = .slice x n m := by obtain ⟨a, c, e⟩ := hIo.row.slc; exact ⟨_, _, _, e⟩
        have HOF : Hid (gh.off + (q : Int) = of) := hof
        have hofb : 0 ≤ of ∧ of ≤ 100000 := by omega
        clear hst6 hbx6 hB6 hs6 hst7 hbx7 hon7 hB7 hIo hI hof hpq'
        obtain ⟨xl, nl, ml, rfl⟩ := hls
        by_cases hfar : 8191 < of
        · have q2 : decide (8191 < of) = true := by simpa using hfar
          have HEN : Hid (en = some 5) := by
            rcases hst.out with h | h
            · omega
            · exact h.2
          have HBE : Hid (Below w.heap.size w w7) := (HIO.out.on HB7.out).bel
          clear hst HIO HX7 HB7
          go_wp2_with first
            | ((with_reducible show wpList _ _ _ ({ dst := _, op := Op.load 28 (Operand.tmp 3), type := _, pos := _, after := _, guard := _ } :: _) _ _); refine armL (.tmp 3) 28 rfl rfl rfl HLV.out ?_)
            | ((with_reducible show wpList _ _ _ ({ dst := _, op := Op.store 28 (Operand.tmp 15) (Operand.tmp 58), type := _, pos := _, after := _, guard := _ } :: _) _ _); refine armS (.tmp 15) (Operand.tmp 58) 28 rfl rfl rfl rfl H6.out ?_; simp only [Act.put])
            | ((with_reducible show wpList _ _ _ ({ dst := _, op := Op.store 3 (Operand.tmp 64) (Operand.tmp 63), type := _, pos := _, after := _, guard := _ } :: _) _ _); refine armS (.tmp 64) (Operand.tmp 63) 3 rfl rfl rfl rfl H7.out ?_; simp only [Act.put])
          go_ret2
          exact RSpP.no HEN.out HBE.out
        · have q2 : decide (8191 < of) = false := by simpa using hfar
          obtain ⟨_, hdr, hen, hln⟩ : of ≤ 8191 ∧ L.drop k = (frs sp nn gh n of (body.drop p)).1 ∧ en = (frs sp nn gh n of (body.drop p)).2 ∧ (body.drop p).length ≤ n := by
            rcases hst.out with h | h
            · exact h
            · omega
          have hdl : (body.drop p).length = nb - p := by rw [List.length_drop, HNB.out]
          obtain ⟨r, hr⟩ : ∃ r : Nat, nb - p = r := ⟨_, rfl⟩
          have w71 : IntKind.i64.wrap ((nb : Int) - (p : Int)) = (r : Int) := by rw [show (nb : Int) - (p : Int) = (r : Int) by omega]; exact wrapi64 _ (by omega)
          have e71 : (nb : Int) - (p : Int) = (r : Int) := by omega
          have hI7 := HIO.out.on HB7.out
          have hw7 := HB7.out.size
          have hbxl := (Array.getElem?_eq_some_iff.1 HX7.out).1
          by_cases hfit : r ≤ sp
          · have q3 : decide ((r : Int) ≤ (sp : Int)) = true := by simp; omega
            rw [frs_fits (by omega)] at hdr hen
            obtain ⟨hLk, hLd, hkL⟩ := drop_at hdr
            have hLe : L = L.take (k + 1) := by
              have := congrArg List.length hdr
              rw [List.length_drop] at this
              simp at this
              rw [List.take_of_length_le (by omega)]
            obtain ⟨u1, hu1, hbu1⟩ := cut_rest hI7.dd.bd (by rw [HNB.out]; exact hbp) p (by rw [HNB.out]; exact hp)
            obtain ⟨cc, cn, w8, hrun8, hB8, hbs8⟩ := frag_copy hbu1
            rw [hdl, hr] at hrun8 hbs8
            obtain ⟨w9, hst9, hbx9, hon9⟩ : ∃ w9, (Instr.storeAt 26 (.pointer (some ⟨wr.heap.size, 41, none⟩)) (.slice (some ⟨cc, 0, none⟩) r cn)).run Try.prog w8 = .ok () w9 ∧ w9.heap[wr.heap.size]? = some (BV f { gh with off := of } vh (.slice (some ⟨cc, 0, none⟩) r cn)) ∧ Only wr.heap.size w8 w9 := ⟨_, st_row (blk_on HX7.out hB8) (show 41 < _ by rw [vC_len]; omega) ⟨_, _, _, rfl⟩, vs41 (blk_on HX7.out hB8) _, (Only.refl _ w8).set 41 _⟩
            have hB9 : Below wr.heap.size wr w9 := (HB7.out.trans (hB8.mono hw7)).trans (hon9.below (Nat.le_refl _))
            have hbs9 : BS (fun c => (Value.slice xl nl ml).ownBlock ≠ some c) w9 (.slice (some ⟨cc, 0, none⟩) r cn) (body.drop p) := (hbs8.sep (Sep.of_only (O := fun b => b = wr.heap.size) hon9 rfl) (fun c hc e => by omega)).mono (fun c _ hc e => by have := (HIO.out.row.lt e).2; omega)
            obtain ⟨l', wf, hrunf, hIf⟩ := (HIO.out.on hB9).app hLk hLl' (sb' := .slice (some ⟨cc, 0, none⟩) r cn) hbs9 29
            have HLX : Hid _ := vb_load hbx9
            have HBR : Hid _ := bs_run w9 f { gh with off := of } vh (.slice (some ⟨cc, 0, none⟩) r cn)
            have HR8 : Hid _ := hrun8
            have HRF : Hid _ := hrunf
            have H9 : Hid _ := hst9
            have HU1 : Hid _ := hu1
            have HFIN : Hid (RSpP f hs w en L (.returned (.tuple #[l', .int .i64 0])) wf) := RSpP.yes hen hLe hIf.row (Nat.le_succ _) hIf.bel
            have hls' : ∃ x n m, l' = .slice x n m := by obtain ⟨a, c, e⟩ := hIf.row.slc; exact ⟨_, _, _, e⟩
            obtain ⟨xf, nf, mf, rfl⟩ := hls'
            clear hdr hen hLk hLd hkL hLe hu1 hbu1 hrun8 hB8 hbs8 hst9 hbx9 hon9 hB9 hbs9 hrunf hIf hI7 hw7 hbxl hdl hst HIO HX7 HB7 hr hln
            go_wp2_with first
              | ((with_reducible show wpList _ _ _ ({ dst := _, op := Op.load 28 (Operand.tmp 3), type := _, pos := _, after := _, guard := _ } :: _) _ _); refine armL (.tmp 3) 28 rfl rfl rfl HLV.out ?_)
              | ((with_reducible show wpList _ _ _ ({ dst := _, op := Op.store 28 (Operand.tmp 15) (Operand.tmp 58), type := _, pos := _, after := _, guard := _ } :: _) _ _); refine armS (.tmp 15) (Operand.tmp 58) 28 rfl rfl rfl rfl H6.out ?_; simp only [Act.put])
              | ((with_reducible show wpList _ _ _ ({ dst := _, op := Op.store 3 (Operand.tmp 64) (Operand.tmp 63), type := _, pos := _, after := _, guard := _ } :: _) _ _); refine armS (.tmp 64) (Operand.tmp 63) 3 rfl rfl rfl rfl H7.out ?_; simp only [Act.put])
              | ((with_reducible show wpList _ _ _ ({ dst := _, op := Op.slice 26 (Operand.tmp 76) (some (Operand.tmp 77)) none none, type := _, pos := _, after := _, guard := _ } :: _) _ _); refine arm_slice rfl 26 (.tmp 76) (some (Operand.tmp 77)) none rfl rfl rfl rfl (HU1.out _) ?_)
              | (at_builtin; refine wpList_append_run rfl _ _ _ _ rfl rfl rfl HR8.out ?_; clear HR8)
              | ((with_reducible show wpList _ _ _ ({ dst := _, op := Op.store 26 (Operand.tmp 80) (Operand.tmp 79), type := _, pos := _, after := _, guard := _ } :: _) _ _); refine armS (.tmp 80) (Operand.tmp 79) 26 rfl rfl rfl rfl H9.out ?_; simp only [Act.put])
              | ((with_reducible show wpList _ _ _ ({ dst := _, op := Op.load 28 (Operand.tmp 15), type := _, pos := _, after := _, guard := _ } :: _) _ _); refine armL (.tmp 15) 28 rfl rfl rfl HLX.out ?_)
              | ((with_reducible show wpList _ _ _ ({ dst := _, op := Op.buildSlice 29 1 #[(0, Operand.tmp 82)], type := _, pos := _, after := _, guard := _ } :: _) _ _); refine armB (.tmp 82) 29 rfl rfl rfl HBR.out ?_)
              | (at_builtin; refine wpList_append_run rfl _ _ _ _ rfl rfl rfl HRF.out ?_; clear HRF)
            go_ret2
            exact HFIN.out
          · have q3 : decide ((r : Int) ≤ (sp : Int)) = false := by simp; omega
            have q3' : ¬ (r : Int) ≤ (sp : Int) := by omega
            have hnf : ¬ (body.drop p).length ≤ sp := by omega
            obtain ⟨m, hm⟩ : ∃ m : Nat, p + nn = m := ⟨_, rfl⟩
            have hmb : m ≤ nb := by omega
            have e90 : (p : Int) + (nn : Int) = (m : Int) := by omega
            have w90 : IntKind.i64.wrap ((p : Int) + (nn : Int)) = (m : Int) := by rw [e90]; exact wrapi64 _ (by omega)
            have hdd : (body.drop p).drop nn = body.drop m := by rw [List.drop_drop, hm]
            obtain ⟨hLk, hnext⟩ : L[k]? = some ⟨{ gh with off := of, more := true }, (body.drop p).take nn⟩ ∧ ∃ n' : Nat, (of + ((nn / 8 : Nat) : Int) ≤ 8191 ∧ L.drop (k + 1) = (frs sp nn gh n' (of + ((nn / 8 : Nat) : Int)) (body.drop m)).1 ∧ en = (frs sp nn gh n' (of + ((nn / 8 : Nat) : Int)) (body.drop m)).2 ∧ (body.drop m).length ≤ n') ∨ (8191 < of + ((nn / 8 : Nat) : Int) ∧ en = some 5) := by
              by_cases ho : of + ((nn / 8 : Nat) : Int) ≤ 8191
              · obtain ⟨n', h1, h2, h3⟩ := frs_step (g := gh) hnf hn8 hln ho
                rw [h2] at hdr
                rw [hdd] at h1 h3 hdr
                exact ⟨(drop_at hdr).1, n', .inl ⟨ho, (drop_at hdr).2.1, hen.trans h3, h1⟩⟩
              · rw [frs_far hnf hln ho] at hdr hen
                exact ⟨(drop_at hdr).1, 0, .inr ⟨by omega, hen⟩⟩
            obtain ⟨n', hnext⟩ := hnext
            have htl : ((body.drop p).take nn).length = nn := by rw [List.length_take]; omega
            obtain ⟨u1, hu1, hbu1⟩ := cut_mid hI7.dd.bd (by rw [HNB.out]; exact hbp) p nn m hm.symm (by rw [HNB.out]; omega) (by omega)
            obtain ⟨cc, cn, w8, hrun8, hB8, hbs8⟩ := frag_copy hbu1
            rw [htl] at hrun8 hbs8
            obtain ⟨w9, hst9, hbx9, hon9⟩ : ∃ w9, (Instr.storeAt 26 (.pointer (some ⟨wr.heap.size, 41, none⟩)) (.slice (some ⟨cc, 0, none⟩) nn cn)).run Try.prog w8 = .ok () w9 ∧ w9.heap[wr.heap.size]? = some (BV f { gh with off := of } vh (.slice (some ⟨cc, 0, none⟩) nn cn)) ∧ Only wr.heap.size w8 w9 := ⟨_, st_row (blk_on HX7.out hB8) (show 41 < _ by rw [vC_len]; omega) ⟨_, _, _, rfl⟩, vs41 (blk_on HX7.out hB8) _, (Only.refl _ w8).set 41 _⟩
            obtain ⟨wa, hsta, hbxa, hona⟩ : ∃ wa, (Instr.storeAt 4 (.pointer (some ⟨wr.heap.size, 39, none⟩)) (.bool true)).run Try.prog w9 = .ok () wa ∧ wa.heap[wr.heap.size]? = some (BV f { gh with off := of, more := true } vh (.slice (some ⟨cc, 0, none⟩) nn cn)) ∧ Only wr.heap.size w9 wa := ⟨_, st_bool hbx9 (show 39 < _ by rw [vC_len]; omega) true, vs39 hbx9 true, (Only.refl _ w9).set 39 _⟩
            have hon := hon9.trans hona
            have hBa : Below wr.heap.size wr wa := (HB7.out.trans (hB8.mono hw7)).trans (hon.below (Nat.le_refl _))
            have hbsa : BS (fun c => (Value.slice xl nl ml).ownBlock ≠ some c) wa (.slice (some ⟨cc, 0, none⟩) nn cn) ((body.drop p).take nn) := (hbs8.sep (Sep.of_only (O := fun b => b = wr.heap.size) hon rfl) (fun c hc e => by omega)).mono (fun c _ hc e => by have := (HIO.out.row.lt e).2; omega)
            obtain ⟨l', wf, hrunf, hIf⟩ := (HIO.out.on hBa).app hLk hLl' (sb' := .slice (some ⟨cc, 0, none⟩) nn cn) hbsa 29
            have HLX : Hid _ := vb_load hbxa
            have HBR : Hid _ := bs_run wa f { gh with off := of, more := true } vh (.slice (some ⟨cc, 0, none⟩) nn cn)
            have HR8 : Hid _ := hrun8
            have HRF : Hid _ := hrunf
            have H9 : Hid _ := hst9
            have HA : Hid _ := hsta
            have HU1 : Hid _ := hu1
            have HIF : Hid (R6I f hs gh vh (.slice a3 nb c3) body w L (k + 1) l' wf) := hIf
            obtain ⟨qn, hqn⟩ : ∃ qn : Nat, nn / 8 = qn := ⟨_, rfl⟩
            rw [hqn] at hnext
            have hmq : Hid (m = 8 * (q + qn)) := by show m = _; have := hpq.out; omega
            have HNX : Hid ((gh.off + ((q + qn : Nat) : Int) ≤ 8191 ∧ L.drop (k + 1) = (frs sp nn gh n' (gh.off + ((q + qn : Nat) : Int)) (body.drop m)).1 ∧ en = (frs sp nn gh n' (gh.off + ((q + qn : Nat) : Int)) (body.drop m)).2 ∧ (body.drop m).length ≤ n') ∨ (8191 < gh.off + ((q + qn : Nat) : Int) ∧ en = some 5)) := by
              have e : gh.off + ((q + qn : Nat) : Int) = of + (qn : Int) := by have := HOF.out; omega
              show _ ∨ _
              rw [e]
              exact hnext
            have hls' : ∃ x n m, l' = .slice x n m := by obtain ⟨a, c, e⟩ := hIf.row.slc; exact ⟨_, _, _, e⟩
            obtain ⟨xf, nf, mf, rfl⟩ := hls'
            have HM : Hid _ := hm
            clear hdr hen hLk hnext hu1 hbu1 hrun8 hB8 hbs8 hst9 hbx9 hon9 hsta hbxa hona hon hBa hbsa hrunf hIf hI7 hw7 hbxl hdl hst HIO HX7 HB7 hr hln hnf hdd htl hqn hm
            go_wp2_with first
              | ((with_reducible show wpList _ _ _ ({ dst := _, op := Op.load 28 (Operand.tmp 3), type := _, pos := _, after := _, guard := _ } :: _) _ _); refine armL (.tmp 3) 28 rfl rfl rfl HLV.out ?_)
              | ((with_reducible show wpList _ _ _ ({ dst := _, op := Op.store 28 (Operand.tmp 15) (Operand.tmp 58), type := _, pos := _, after := _, guard := _ } :: _) _ _); refine armS (.tmp 15) (Operand.tmp 58) 28 rfl rfl rfl rfl H6.out ?_; simp only [Act.put])
              | ((with_reducible show wpList _ _ _ ({ dst := _, op := Op.store 3 (Operand.tmp 64) (Operand.tmp 63), type := _, pos := _, after := _, guard := _ } :: _) _ _); refine armS (.tmp 64) (Operand.tmp 63) 3 rfl rfl rfl rfl H7.out ?_; simp only [Act.put])
              | ((with_reducible show wpList _ _ _ ({ dst := _, op := Op.slice 26 (Operand.tmp 86) (some (Operand.tmp 87)) (some (Operand.tmp 90)) none, type := _, pos := _, after := _, guard := _ } :: _) _ _); refine arm_slice rfl 26 (.tmp 86) (some (Operand.tmp 87)) (some (Operand.tmp 90)) rfl rfl rfl rfl (HU1.out _) ?_)
              | (at_builtin; refine wpList_append_run rfl _ _ _ _ rfl rfl rfl HR8.out ?_; clear HR8)
              | ((with_reducible show wpList _ _ _ ({ dst := _, op := Op.store 26 (Operand.tmp 93) (Operand.tmp 92), type := _, pos := _, after := _, guard := _ } :: _) _ _); refine armS (.tmp 93) (Operand.tmp 92) 26 rfl rfl rfl rfl H9.out ?_; simp only [Act.put])
              | ((with_reducible show wpList _ _ _ ({ dst := _, op := Op.store 4 (Operand.tmp 94) _, type := _, pos := _, after := _, guard := _ } :: _) _ _); refine armS (.tmp 94) (.const (.bool true)) 4 rfl rfl rfl rfl HA.out ?_; simp only [Act.put])
              | ((with_reducible show wpList _ _ _ ({ dst := _, op := Op.load 28 (Operand.tmp 15), type := _, pos := _, after := _, guard := _ } :: _) _ _); refine armL (.tmp 15) 28 rfl rfl rfl HLX.out ?_)
              | ((with_reducible show wpList _ _ _ ({ dst := _, op := Op.buildSlice 29 1 #[(0, Operand.tmp 96)], type := _, pos := _, after := _, guard := _ } :: _) _ _); refine armB (.tmp 96) 29 rfl rfl rfl HBR.out ?_)
              | (at_builtin; refine wpList_append_run rfl _ _ _ _ rfl rfl rfl HRF.out ?_; clear HRF)
            exact ⟨⟨k + 1, q + qn, n', m, rfl, hmb, hmq, HNX.out, HIF.out⟩, by simp [intOf]; have := HM.out; omega⟩
  · first | (have q8' := q8 rfl; clear q8) | clear q8
    go_enter Try.func9, Try.ntmps9
    go_wp2_with first
      | ((with_reducible show wpList _ _ _ ({ dst := _, op := Op.load 28 (Operand.tmp 3), type := _, pos := _, after := _, guard := _ } :: _) _ _); refine armL (.tmp 3) 28 rfl rfl rfl HL0.out ?_)
    refine Calls.mono HFT.out ?_
    rintro e w2 ⟨rfl, hb2⟩
    have HB2 : Hid (Below w.heap.size w w2) := HB0.out.trans (hb2.mono HB0.out.size)
    have hv2 := blk_on HV0.out hb2
    have k39 := vb39 hv2
    have k41 := vb41 hv2
    rw [HMR.out] at k39
    have HL2 : Hid _ := vb_load hv2
    have HV2 : Hid (w2.heap[w.heap.size]? = some (BV f g vh (.slice a3 nb c3))) := hv2
    have HD2 : Hid (D6 (fun c => c < w.heap.size) w2 f vh (.slice a3 nb c3) hs body) := HD0.out.on hb2
    have HH2 : Hid _ := HHD.out _ hb2
    clear hb2 HFT HL0 HV0 HD0 HB0 hW hv2 HHD
    go_wp2_with first
      | ((with_reducible show wpList _ _ _ ({ dst := _, op := Op.load 28 (Operand.tmp 3), type := _, pos := _, after := _, guard := _ } :: _) _ _); refine armL (.tmp 3) 28 rfl rfl rfl HL2.out ?_)
    refine Calls.mono HH2.out ?_
    rintro e w3 ⟨rfl, hb3⟩
    have HB3 : Hid (Below w.heap.size w w3) := HB2.out.trans (hb3.mono HB2.out.size)
    have hv3 := blk_on HV2.out hb3
    have hD3 := HD2.out.on hb3
    obtain ⟨fr, hfr⟩ : ∃ fr, g.fr = fr := ⟨_, rfl⟩
    have k36 := vb36 hv3
    rw [hfr] at k36
    have hpre : ∃ w5, (fr = true → w5 = w3) ∧ (fr = false → ∃ w4, (Instr.storeAt 4 (.pointer (some ⟨w.heap.size, 36, none⟩)) (.bool true)).run Try.prog w3 = .ok () w4 ∧ (Instr.storeAt 22 (.pointer (some ⟨w.heap.size, 37, none⟩)) (.int .u32 id)).run Try.prog w4 = .ok () w5) ∧ R6I f hs gh vh (.slice a3 nb c3) body w L 0 (.slice none 0 0) w5 := by
      cases fr with
      | true =>
        have e : gh = g := by rw [← HGH.out]; unfold hdG; rw [if_pos hfr]
        refine ⟨w3, fun _ => rfl, fun h => Bool.noConfusion h, by rw [e]; exact hv3, ?_, hD3, HB3.out⟩
        rw [List.take_zero]; exact RowV.nil _ _ _ _ _
      | false =>
        have e : gh = { g with fr := true, id := id } := by rw [← HGH.out]; unfold hdG; rw [hfr]; rfl
        have hon4 : Only w.heap.size w3 ((w3.setCell ⟨w.heap.size, 36, none⟩ (.bool true)).setCell ⟨w.heap.size, 37, none⟩ (.int .u32 id)) := ((Only.refl _ w3).set 36 _).set 37 _
        refine ⟨_, fun h => Bool.noConfusion h, fun _ => ⟨_, st_bool hv3 (show 36 < _ by rw [vC_len]; omega) true, st_u32 (vs36 hv3 true) (show 37 < _ by rw [vC_len]; omega) id⟩, ?_, ?_, hD3.sep (Sep.of_only (O := fun b => b = w.heap.size) hon4 rfl) (fun b hb e => by omega), HB3.out.trans (hon4.below (Nat.le_refl _))⟩
        · rw [e]; exact vs37 (vs36 hv3 true) id
        · rw [List.take_zero]; exact RowV.nil _ _ _ _ _
    obtain ⟨w5, hp1, hp2, hI5⟩ := hpre
    have k41' := vb41 hI5.vbx
    have HI5 : Hid (R6I f hs gh vh (.slice a3 nb c3) body w L 0 (.slice none 0 0) w5) := hI5
    clear hb3 HH2 HL2 HB2 k39 k41 hv3 hD3 HV2 HD2 hfr hI5
    have loopc : True := trivial
    cases fr
    · obtain ⟨w4, hst4, hst5⟩ := hp2 rfl
      have H4 : Hid _ := hst4
      have H5 : Hid _ := hst5
      clear hp1 hp2 hst4 hst5
      go_wp2_with first
        | ((with_reducible show wpList _ _ _ ({ dst := _, op := Op.store 4 (Operand.tmp 51) _, type := _, pos := _, after := _, guard := _ } :: _) _ _); refine armS (.tmp 51) (.const (.bool true)) 4 rfl rfl rfl rfl H4.out ?_; simp only [Act.put])
        | ((with_reducible show wpList _ _ _ ({ dst := _, op := Op.store 22 (Operand.tmp 52) (Operand.tmp 50), type := _, pos := _, after := _, guard := _ } :: _) _ _); refine armS (.tmp 52) (Operand.tmp 50) 22 rfl rfl rfl rfl H5.out ?_; simp only [Act.put])
      go_loopw [12, 14] (fun l i wr => ∃ k q n p : Nat, i = .int .i64 p ∧ p ≤ nb ∧ Hid (p = 8 * q) ∧ Hid ((gh.off + (q : Int) ≤ 8191 ∧ L.drop k = (frs sp nn gh n (gh.off + (q : Int)) (body.drop p)).1 ∧ en = (frs sp nn gh n (gh.off + (q : Int)) (body.drop p)).2 ∧ (body.drop p).length ≤ n) ∨ (8191 < gh.off + (q : Int) ∧ en = some 5)) ∧ Hid (R6I f hs gh vh (.slice a3 nb c3) body w L k l wr)) (fun _ i _ => nb - (intOf i).toNat)
      case atStart => exact ⟨0, 0, nb, 0, rfl, Nat.zero_le _, rfl, .inl ⟨by simp; exact hgo.2, by simpa using HST0.out.1, by simpa using HST0.out.2, by simp [HNB.out]⟩, HI5.out⟩
      case round =>
        obtain ⟨k, q, n, p, rfl, hp, hpq, hst, hI⟩ := hrel
        have hIo := hI.out
        have HIO : Hid (R6I f hs gh vh (.slice a3 nb c3) body w L k u12 wr) := hIo
        have HLV : Hid _ := vb_load hIo.vbx
        obtain ⟨w6, hst6, hbx6, hB6, hs6⟩ := vb_new wr f gh (vh := vh) (vb := .slice a3 nb c3) hIo.dd.hd.one rfl
        unfold zeroV at hst6
        have v38 : w6.cell? ⟨w.heap.size, 38, none⟩ = some (.int .i64 gh.off) := vb38 (blk_on hIo.vbx hB6)
        obtain ⟨of, hof⟩ : ∃ of : Int, gh.off + (q : Int) = of := ⟨_, rfl⟩
        rw [hof] at hst
        obtain ⟨w7, hst7, hbx7, hon7⟩ : ∃ w7, (Instr.storeAt 3 (.pointer (some ⟨wr.heap.size, 38, none⟩)) (.int .i64 of)).run Try.prog w6 = .ok () w7 ∧ w7.heap[wr.heap.size]? = some (BV f { gh with off := of } vh (.slice a3 nb c3)) ∧ Only wr.heap.size w6 w7 := ⟨_, st_int hbx6 (show 38 < _ by rw [vC_len]; omega) of, vs38 hbx6 of, (Only.refl _ w6).set 38 _⟩
        have hB7 : Below wr.heap.size wr w7 := hB6.trans (hon7.below (Nat.le_refl _))
        have k38 : w7.cell? ⟨wr.heap.size, 38, none⟩ = some (.int .i64 of) := vb38 hbx7
        have hpq' := hpq.out
        have w62 : ((p : Nat) : Int) / 8 = (q : Int) := by omega
        have w63 : IntKind.i64.wrap (gh.off + (q : Int)) = of := by rw [hof]; exact wrapi64 _ (by omega)
        have H6 : Hid _ := hst6
        have H7 : Hid _ := hst7
        have HX7 : Hid (w7.heap[wr.heap.size]? = some (BV f { gh with off := of } vh (.slice a3 nb c3))) := hbx7
        have HB7 : Hid (Below wr.heap.size wr w7) := hB7
        have hls : ∃ x n m, u12 = .slice x n m := by obtain ⟨a, c, e⟩ := hIo.row.slc; exact ⟨_, _, _, e⟩
        have HOF : Hid (gh.off + (q : Int) = of) := hof
        have hofb : 0 ≤ of ∧ of ≤ 100000 := by omega
        clear hst6 hbx6 hB6 hs6 hst7 hbx7 hon7 hB7 hIo hI hof hpq'
        obtain ⟨xl, nl, ml, rfl⟩ := hls
        by_cases hfar : 8191 < of
        · have q2 : decide (8191 < of) = true := by simpa using hfar
          have HEN : Hid (en = some 5) := by
            rcases hst.out with h | h
            · omega
            · exact h.2
          have HBE : Hid (Below w.heap.size w w7) := (HIO.out.on HB7.out).bel
          clear hst HIO HX7 HB7
          go_wp2_with first
            | ((with_reducible show wpList _ _ _ ({ dst := _, op := Op.load 28 (Operand.tmp 3), type := _, pos := _, after := _, guard := _ } :: _) _ _); refine armL (.tmp 3) 28 rfl rfl rfl HLV.out ?_)
            | ((with_reducible show wpList _ _ _ ({ dst := _, op := Op.store 28 (Operand.tmp 15) (Operand.tmp 58), type := _, pos := _, after := _, guard := _ } :: _) _ _); refine armS (.tmp 15) (Operand.tmp 58) 28 rfl rfl rfl rfl H6.out ?_; simp only [Act.put])
            | ((with_reducible show wpList _ _ _ ({ dst := _, op := Op.store 3 (Operand.tmp 64) (Operand.tmp 63), type := _, pos := _, after := _, guard := _ } :: _) _ _); refine armS (.tmp 64) (Operand.tmp 63) 3 rfl rfl rfl rfl H7.out ?_; simp only [Act.put])
          go_ret2
          exact RSpP.no HEN.out HBE.out
        · have q2 : decide (8191 < of) = false := by simpa using hfar
          obtain ⟨_, hdr, hen, hln⟩ : of ≤ 8191 ∧ L.drop k = (frs sp nn gh n of (body.drop p)).1 ∧ en = (frs sp nn gh n of (body.drop p)).2 ∧ (body.drop p).length ≤ n := by
            rcases hst.out with h | h
            · exact h
            · omega
          have hdl : (body.drop p).length = nb - p := by rw [List.length_drop, HNB.out]
          obtain ⟨r, hr⟩ : ∃ r : Nat, nb - p = r := ⟨_, rfl⟩
          have w71 : IntKind.i64.wrap ((nb : Int) - (p : Int)) = (r : Int) := by rw [show (nb : Int) - (p : Int) = (r : Int) by omega]; exact wrapi64 _ (by omega)
          have e71 : (nb : Int) - (p : Int) = (r : Int) := by omega
          have hI7 := HIO.out.on HB7.out
          have hw7 := HB7.out.size
          have hbxl := (Array.getElem?_eq_some_iff.1 HX7.out).1
          by_cases hfit : r ≤ sp
          · have q3 : decide ((r : Int) ≤ (sp : Int)) = true := by simp; omega
            rw [frs_fits (by omega)] at hdr hen
            obtain ⟨hLk, hLd, hkL⟩ := drop_at hdr
            have hLe : L = L.take (k + 1) := by
              have := congrArg List.length hdr
              rw [List.length_drop] at this
              simp at this
              rw [List.take_of_length_le (by omega)]
            obtain ⟨u1, hu1, hbu1⟩ := cut_rest hI7.dd.bd (by rw [HNB.out]; exact hbp) p (by rw [HNB.out]; exact hp)
            obtain ⟨cc, cn, w8, hrun8, hB8, hbs8⟩ := frag_copy hbu1
            rw [hdl, hr] at hrun8 hbs8
            obtain ⟨w9, hst9, hbx9, hon9⟩ : ∃ w9, (Instr.storeAt 26 (.pointer (some ⟨wr.heap.size, 41, none⟩)) (.slice (some ⟨cc, 0, none⟩) r cn)).run Try.prog w8 = .ok () w9 ∧ w9.heap[wr.heap.size]? = some (BV f { gh with off := of } vh (.slice (some ⟨cc, 0, none⟩) r cn)) ∧ Only wr.heap.size w8 w9 := ⟨_, st_row (blk_on HX7.out hB8) (show 41 < _ by rw [vC_len]; omega) ⟨_, _, _, rfl⟩, vs41 (blk_on HX7.out hB8) _, (Only.refl _ w8).set 41 _⟩
            have hB9 : Below wr.heap.size wr w9 := (HB7.out.trans (hB8.mono hw7)).trans (hon9.below (Nat.le_refl _))
            have hbs9 : BS (fun c => (Value.slice xl nl ml).ownBlock ≠ some c) w9 (.slice (some ⟨cc, 0, none⟩) r cn) (body.drop p) := (hbs8.sep (Sep.of_only (O := fun b => b = wr.heap.size) hon9 rfl) (fun c hc e => by omega)).mono (fun c _ hc e => by have := (HIO.out.row.lt e).2; omega)
            obtain ⟨l', wf, hrunf, hIf⟩ := (HIO.out.on hB9).app hLk hLl' (sb' := .slice (some ⟨cc, 0, none⟩) r cn) hbs9 29
            have HLX : Hid _ := vb_load hbx9
            have HBR : Hid _ := bs_run w9 f { gh with off := of } vh (.slice (some ⟨cc, 0, none⟩) r cn)
            have HR8 : Hid _ := hrun8
            have HRF : Hid _ := hrunf
            have H9 : Hid _ := hst9
            have HU1 : Hid _ := hu1
            have HFIN : Hid (RSpP f hs w en L (.returned (.tuple #[l', .int .i64 0])) wf) := RSpP.yes hen hLe hIf.row (Nat.le_succ _) hIf.bel
            have hls' : ∃ x n m, l' = .slice x n m := by obtain ⟨a, c, e⟩ := hIf.row.slc; exact ⟨_, _, _, e⟩
            obtain ⟨xf, nf, mf, rfl⟩ := hls'
            clear hdr hen hLk hLd hkL hLe hu1 hbu1 hrun8 hB8 hbs8 hst9 hbx9 hon9 hB9 hbs9 hrunf hIf hI7 hw7 hbxl hdl hst HIO HX7 HB7 hr hln
            go_wp2_with first
              | ((with_reducible show wpList _ _ _ ({ dst := _, op := Op.load 28 (Operand.tmp 3), type := _, pos := _, after := _, guard := _ } :: _) _ _); refine armL (.tmp 3) 28 rfl rfl rfl HLV.out ?_)
              | ((with_reducible show wpList _ _ _ ({ dst := _, op := Op.store 28 (Operand.tmp 15) (Operand.tmp 58), type := _, pos := _, after := _, guard := _ } :: _) _ _); refine armS (.tmp 15) (Operand.tmp 58) 28 rfl rfl rfl rfl H6.out ?_; simp only [Act.put])
              | ((with_reducible show wpList _ _ _ ({ dst := _, op := Op.store 3 (Operand.tmp 64) (Operand.tmp 63), type := _, pos := _, after := _, guard := _ } :: _) _ _); refine armS (.tmp 64) (Operand.tmp 63) 3 rfl rfl rfl rfl H7.out ?_; simp only [Act.put])
              | ((with_reducible show wpList _ _ _ ({ dst := _, op := Op.slice 26 (Operand.tmp 76) (some (Operand.tmp 77)) none none, type := _, pos := _, after := _, guard := _ } :: _) _ _); refine arm_slice rfl 26 (.tmp 76) (some (Operand.tmp 77)) none rfl rfl rfl rfl (HU1.out _) ?_)
              | (at_builtin; refine wpList_append_run rfl _ _ _ _ rfl rfl rfl HR8.out ?_; clear HR8)
              | ((with_reducible show wpList _ _ _ ({ dst := _, op := Op.store 26 (Operand.tmp 80) (Operand.tmp 79), type := _, pos := _, after := _, guard := _ } :: _) _ _); refine armS (.tmp 80) (Operand.tmp 79) 26 rfl rfl rfl rfl H9.out ?_; simp only [Act.put])
              | ((with_reducible show wpList _ _ _ ({ dst := _, op := Op.load 28 (Operand.tmp 15), type := _, pos := _, after := _, guard := _ } :: _) _ _); refine armL (.tmp 15) 28 rfl rfl rfl HLX.out ?_)
              | ((with_reducible show wpList _ _ _ ({ dst := _, op := Op.buildSlice 29 1 #[(0, Operand.tmp 82)], type := _, pos := _, after := _, guard := _ } :: _) _ _); refine armB (.tmp 82) 29 rfl rfl rfl HBR.out ?_)
              | (at_builtin; refine wpList_append_run rfl _ _ _ _ rfl rfl rfl HRF.out ?_; clear HRF)
            go_ret2
            exact HFIN.out
          · have q3 : decide ((r : Int) ≤ (sp : Int)) = false := by simp; omega
            have q3' : ¬ (r : Int) ≤ (sp : Int) := by omega
            have hnf : ¬ (body.drop p).length ≤ sp := by omega
            obtain ⟨m, hm⟩ : ∃ m : Nat, p + nn = m := ⟨_, rfl⟩
            have hmb : m ≤ nb := by omega
            have e90 : (p : Int) + (nn : Int) = (m : Int) := by omega
            have w90 : IntKind.i64.wrap ((p : Int) + (nn : Int)) = (m : Int) := by rw [e90]; exact wrapi64 _ (by omega)
            have hdd : (body.drop p).drop nn = body.drop m := by rw [List.drop_drop, hm]
            obtain ⟨hLk, hnext⟩ : L[k]? = some ⟨{ gh with off := of, more := true }, (body.drop p).take nn⟩ ∧ ∃ n' : Nat, (of + ((nn / 8 : Nat) : Int) ≤ 8191 ∧ L.drop (k + 1) = (frs sp nn gh n' (of + ((nn / 8 : Nat) : Int)) (body.drop m)).1 ∧ en = (frs sp nn gh n' (of + ((nn / 8 : Nat) : Int)) (body.drop m)).2 ∧ (body.drop m).length ≤ n') ∨ (8191 < of + ((nn / 8 : Nat) : Int) ∧ en = some 5) := by
              by_cases ho : of + ((nn / 8 : Nat) : Int) ≤ 8191
              · obtain ⟨n', h1, h2, h3⟩ := frs_step (g := gh) hnf hn8 hln ho
                rw [h2] at hdr
                rw [hdd] at h1 h3 hdr
                exact ⟨(drop_at hdr).1, n', .inl ⟨ho, (drop_at hdr).2.1, hen.trans h3, h1⟩⟩
              · rw [frs_far hnf hln ho] at hdr hen
                exact ⟨(drop_at hdr).1, 0, .inr ⟨by omega, hen⟩⟩
            obtain ⟨n', hnext⟩ := hnext
            have htl : ((body.drop p).take nn).length = nn := by rw [List.length_take]; omega
            obtain ⟨u1, hu1, hbu1⟩ := cut_mid hI7.dd.bd (by rw [HNB.out]; exact hbp) p nn m hm.symm (by rw [HNB.out]; omega) (by omega)
            obtain ⟨cc, cn, w8, hrun8, hB8, hbs8⟩ := frag_copy hbu1
            rw [htl] at hrun8 hbs8
            obtain ⟨w9, hst9, hbx9, hon9⟩ : ∃ w9, (Instr.storeAt 26 (.pointer (some ⟨wr.heap.size, 41, none⟩)) (.slice (some ⟨cc, 0, none⟩) nn cn)).run Try.prog w8 = .ok () w9 ∧ w9.heap[wr.heap.size]? = some (BV f { gh with off := of } vh (.slice (some ⟨cc, 0, none⟩) nn cn)) ∧ Only wr.heap.size w8 w9 := ⟨_, st_row (blk_on HX7.out hB8) (show 41 < _ by rw [vC_len]; omega) ⟨_, _, _, rfl⟩, vs41 (blk_on HX7.out hB8) _, (Only.refl _ w8).set 41 _⟩
            obtain ⟨wa, hsta, hbxa, hona⟩ : ∃ wa, (Instr.storeAt 4 (.pointer (some ⟨wr.heap.size, 39, none⟩)) (.bool true)).run Try.prog w9 = .ok () wa ∧ wa.heap[wr.heap.size]? = some (BV f { gh with off := of, more := true } vh (.slice (some ⟨cc, 0, none⟩) nn cn)) ∧ Only wr.heap.size w9 wa := ⟨_, st_bool hbx9 (show 39 < _ by rw [vC_len]; omega) true, vs39 hbx9 true, (Only.refl _ w9).set 39 _⟩
            have hon := hon9.trans hona
            have hBa : Below wr.heap.size wr wa := (HB7.out.trans (hB8.mono hw7)).trans (hon.below (Nat.le_refl _))
            have hbsa : BS (fun c => (Value.slice xl nl ml).ownBlock ≠ some c) wa (.slice (some ⟨cc, 0, none⟩) nn cn) ((body.drop p).take nn) := (hbs8.sep (Sep.of_only (O := fun b => b = wr.heap.size) hon rfl) (fun c hc e => by omega)).mono (fun c _ hc e => by have := (HIO.out.row.lt e).2; omega)
            obtain ⟨l', wf, hrunf, hIf⟩ := (HIO.out.on hBa).app hLk hLl' (sb' := .slice (some ⟨cc, 0, none⟩) nn cn) hbsa 29
            have HLX : Hid _ := vb_load hbxa
            have HBR : Hid _ := bs_run wa f { gh with off := of, more := true } vh (.slice (some ⟨cc, 0, none⟩) nn cn)
            have HR8 : Hid _ := hrun8
            have HRF : Hid _ := hrunf
            have H9 : Hid _ := hst9
            have HA : Hid _ := hsta
            have HU1 : Hid _ := hu1
            have HIF : Hid (R6I f hs gh vh (.slice a3 nb c3) body w L (k + 1) l' wf) := hIf
            obtain ⟨qn, hqn⟩ : ∃ qn : Nat, nn / 8 = qn := ⟨_, rfl⟩
            rw [hqn] at hnext
            have hmq : Hid (m = 8 * (q + qn)) := by show m = _; have := hpq.out; omega
            have HNX : Hid ((gh.off + ((q + qn : Nat) : Int) ≤ 8191 ∧ L.drop (k + 1) = (frs sp nn gh n' (gh.off + ((q + qn : Nat) : Int)) (body.drop m)).1 ∧ en = (frs sp nn gh n' (gh.off + ((q + qn : Nat) : Int)) (body.drop m)).2 ∧ (body.drop m).length ≤ n') ∨ (8191 < gh.off + ((q + qn : Nat) : Int) ∧ en = some 5)) := by
              have e : gh.off + ((q + qn : Nat) : Int) = of + (qn : Int) := by have := HOF.out; omega
              show _ ∨ _
              rw [e]
              exact hnext
            have hls' : ∃ x n m, l' = .slice x n m := by obtain ⟨a, c, e⟩ := hIf.row.slc; exact ⟨_, _, _, e⟩
            obtain ⟨xf, nf, mf, rfl⟩ := hls'
            have HM : Hid _ := hm
            clear hdr hen hLk hnext hu1 hbu1 hrun8 hB8 hbs8 hst9 hbx9 hon9 hsta hbxa hona hon hBa hbsa hrunf hIf hI7 hw7 hbxl hdl hst HIO HX7 HB7 hr hln hnf hdd htl hqn hm
            go_wp2_with first
              | ((with_reducible show wpList _ _ _ ({ dst := _, op := Op.load 28 (Operand.tmp 3), type := _, pos := _, after := _, guard := _ } :: _) _ _); refine armL (.tmp 3) 28 rfl rfl rfl HLV.out ?_)
              | ((with_reducible show wpList _ _ _ ({ dst := _, op := Op.store 28 (Operand.tmp 15) (Operand.tmp 58), type := _, pos := _, after := _, guard := _ } :: _) _ _); refine armS (.tmp 15) (Operand.tmp 58) 28 rfl rfl rfl rfl H6.out ?_; simp only [Act.put])
              | ((with_reducible show wpList _ _ _ ({ dst := _, op := Op.store 3 (Operand.tmp 64) (Operand.tmp 63), type := _, pos := _, after := _, guard := _ } :: _) _ _); refine armS (.tmp 64) (Operand.tmp 63) 3 rfl rfl rfl rfl H7.out ?_; simp only [Act.put])
              | ((with_reducible show wpList _ _ _ ({ dst := _, op := Op.slice 26 (Operand.tmp 86) (some (Operand.tmp 87)) (some (Operand.tmp 90)) none, type := _, pos := _, after := _, guard := _ } :: _) _ _); refine arm_slice rfl 26 (.tmp 86) (some (Operand.tmp 87)) (some (Operand.tmp 90)) rfl rfl rfl rfl (HU1.out _) ?_)
              | (at_builtin; refine wpList_append_run rfl _ _ _ _ rfl rfl rfl HR8.out ?_; clear HR8)
              | ((with_reducible show wpList _ _ _ ({ dst := _, op := Op.store 26 (Operand.tmp 93) (Operand.tmp 92), type := _, pos := _, after := _, guard := _ } :: _) _ _); refine armS (.tmp 93) (Operand.tmp 92) 26 rfl rfl rfl rfl H9.out ?_; simp only [Act.put])
              | ((with_reducible show wpList _ _ _ ({ dst := _, op := Op.store 4 (Operand.tmp 94) _, type := _, pos := _, after := _, guard := _ } :: _) _ _); refine armS (.tmp 94) (.const (.bool true)) 4 rfl rfl rfl rfl HA.out ?_; simp only [Act.put])
              | ((with_reducible show wpList _ _ _ ({ dst := _, op := Op.load 28 (Operand.tmp 15), type := _, pos := _, after := _, guard := _ } :: _) _ _); refine armL (.tmp 15) 28 rfl rfl rfl HLX.out ?_)
              | ((with_reducible show wpList _ _ _ ({ dst := _, op := Op.buildSlice 29 1 #[(0, Operand.tmp 96)], type := _, pos := _, after := _, guard := _ } :: _) _ _); refine armB (.tmp 96) 29 rfl rfl rfl HBR.out ?_)
              | (at_builtin; refine wpList_append_run rfl _ _ _ _ rfl rfl rfl HRF.out ?_; clear HRF)
            exact ⟨⟨k + 1, q + qn, n', m, rfl, hmb, hmq, HNX.out, HIF.out⟩, by simp [intOf]; have := HM.out; omega⟩
    · obtain rfl := hp1 rfl
      clear hp1 hp2
      have k41 := k41'
      go_wp2_with fail
      go_loopw [12, 14] (fun l i wr => ∃ k q n p : Nat, i = .int .i64 p ∧ p ≤ nb ∧ Hid (p = 8 * q) ∧ Hid ((gh.off + (q : Int) ≤ 8191 ∧ L.drop k = (frs sp nn gh n (gh.off + (q : Int)) (body.drop p)).1 ∧ en = (frs sp nn gh n (gh.off + (q : Int)) (body.drop p)).2 ∧ (body.drop p).length ≤ n) ∨ (8191 < gh.off + (q : Int) ∧ en = some 5)) ∧ Hid (R6I f hs gh vh (.slice a3 nb c3) body w L k l wr)) (fun _ i _ => nb - (intOf i).toNat)
      case atStart => exact ⟨0, 0, nb, 0, rfl, Nat.zero_le _, rfl, .inl ⟨by simp; exact hgo.2, by simpa using HST0.out.1, by simpa using HST0.out.2, by simp [HNB.out]⟩, HI5.out⟩
      case round =>
        obtain ⟨k, q, n, p, rfl, hp, hpq, hst, hI⟩ := hrel
        have hIo := hI.out
        have HIO : Hid (R6I f hs gh vh (.slice a3 nb c3) body w L k u12 wr) := hIo
        have HLV : Hid _ := vb_load hIo.vbx
        obtain ⟨w6, hst6, hbx6, hB6, hs6⟩ := vb_new wr f gh (vh := vh) (vb := .slice a3 nb c3) hIo.dd.hd.one rfl
        unfold zeroV at hst6
        have v38 : w6.cell? ⟨w.heap.size, 38, none⟩ = some (.int .i64 gh.off) := vb38 (blk_on hIo.vbx hB6)
        obtain ⟨of, hof⟩ : ∃ of : Int, gh.off + (q : Int) = of := ⟨_, rfl⟩
        rw [hof] at hst
        obtain ⟨w7, hst7, hbx7, hon7⟩ : ∃ w7, (Instr.storeAt 3 (.pointer (some ⟨wr.heap.size, 38, none⟩)) (.int .i64 of)).run Try.prog w6 = .ok () w7 ∧ w7.heap[wr.heap.size]? = some (BV f { gh with off := of } vh (.slice a3 nb c3)) ∧ Only wr.heap.size w6 w7 := ⟨_, st_int hbx6 (show 38 < _ by rw [vC_len]; omega) of, vs38 hbx6 of, (Only.refl _ w6).set 38 _⟩
        have hB7 : Below wr.heap.size wr w7 := hB6.trans (hon7.below (Nat.le_refl _))
        have k38 : w7.cell? ⟨wr.heap.size, 38, none⟩ = some (.int .i64 of) := vb38 hbx7
        have hpq' := hpq.out
        have w62 : ((p : Nat) : Int) / 8 = (q : Int) := by omega
        have w63 : IntKind.i64.wrap (gh.off + (q : Int)) = of := by rw [hof]; exact wrapi64 _ (by omega)
        have H6 : Hid _ := hst6
        have H7 : Hid _ := hst7
        have HX7 : Hid (w7.heap[wr.heap.size]? = some (BV f { gh with off := of } vh (.slice a3 nb c3))) := hbx7
        have HB7 : Hid (Below wr.heap.size wr w7) := hB7
        have hls : ∃ x n m, u12 = .slice x n m := by obtain ⟨a, c, e⟩ := hIo.row.slc; exact ⟨_, _, _, e⟩
        have HOF : Hid (gh.off + (q : Int) = of) := hof
        have hofb : 0 ≤ of ∧ of ≤ 100000 := by omega
        clear hst6 hbx6 hB6 hs6 hst7 hbx7 hon7 hB7 hIo hI hof hpq'
        obtain ⟨xl, nl, ml, rfl⟩ := hls
        by_cases hfar : 8191 < of
        · have q2 : decide (8191 < of) = true := by simpa using hfar
          have HEN : Hid (en = some 5) := by
            rcases hst.out with h | h
            · omega
            · exact h.2
          have HBE : Hid (Below w.heap.size w w7) := (HIO.out.on HB7.out).bel
          clear hst HIO HX7 HB7
          go_wp2_with first
            | ((with_reducible show wpList _ _ _ ({ dst := _, op := Op.load 28 (Operand.tmp 3), type := _, pos := _, after := _, guard := _ } :: _) _ _); refine armL (.tmp 3) 28 rfl rfl rfl HLV.out ?_)
            | ((with_reducible show wpList _ _ _ ({ dst := _, op := Op.store 28 (Operand.tmp 15) (Operand.tmp 58), type := _, pos := _, after := _, guard := _ } :: _) _ _); refine armS (.tmp 15) (Operand.tmp 58) 28 rfl rfl rfl rfl H6.out ?_; simp only [Act.put])
            | ((with_reducible show wpList _ _ _ ({ dst := _, op := Op.store 3 (Operand.tmp 64) (Operand.tmp 63), type := _, pos := _, after := _, guard := _ } :: _) _ _); refine armS (.tmp 64) (Operand.tmp 63) 3 rfl rfl rfl rfl H7.out ?_; simp only [Act.put])
          go_ret2
          exact RSpP.no HEN.out HBE.out
        · have q2 : decide (8191 < of) = false := by simpa using hfar
          obtain ⟨_, hdr, hen, hln⟩ : of ≤ 8191 ∧ L.drop k = (frs sp nn gh n of (body.drop p)).1 ∧ en = (frs sp nn gh n of (body.drop p)).2 ∧ (body.drop p).length ≤ n := by
            rcases hst.out with h | h
            · exact h
            · omega
          have hdl : (body.drop p).length = nb - p := by rw [List.length_drop, HNB.out]
          obtain ⟨r, hr⟩ : ∃ r : Nat, nb - p = r := ⟨_, rfl⟩
          have w71 : IntKind.i64.wrap ((nb : Int) - (p : Int)) = (r : Int) := by rw [show (nb : Int) - (p : Int) = (r : Int) by omega]; exact wrapi64 _ (by omega)
          have e71 : (nb : Int) - (p : Int) = (r : Int) := by omega
          have hI7 := HIO.out.on HB7.out
          have hw7 := HB7.out.size
          have hbxl := (Array.getElem?_eq_some_iff.1 HX7.out).1
          by_cases hfit : r ≤ sp
          · have q3 : decide ((r : Int) ≤ (sp : Int)) = true := by simp; omega
            rw [frs_fits (by omega)] at hdr hen
            obtain ⟨hLk, hLd, hkL⟩ := drop_at hdr
            have hLe : L = L.take (k + 1) := by
              have := congrArg List.length hdr
              rw [List.length_drop] at this
              simp at this
              rw [List.take_of_length_le (by omega)]
            obtain ⟨u1, hu1, hbu1⟩ := cut_rest hI7.dd.bd (by rw [HNB.out]; exact hbp) p (by rw [HNB.out]; exact hp)
            obtain ⟨cc, cn, w8, hrun8, hB8, hbs8⟩ := frag_copy hbu1
            rw [hdl, hr] at hrun8 hbs8
            obtain ⟨w9, hst9, hbx9, hon9⟩ : ∃ w9, (Instr.storeAt 26 (.pointer (some ⟨wr.heap.size, 41, none⟩)) (.slice (some ⟨cc, 0, none⟩) r cn)).run Try.prog w8 = .ok () w9 ∧ w9.heap[wr.heap.size]? = some (BV f { gh with off := of } vh (.slice (some ⟨cc, 0, none⟩) r cn)) ∧ Only wr.heap.size w8 w9 := ⟨_, st_row (blk_on HX7.out hB8) (show 41 < _ by rw [vC_len]; omega) ⟨_, _, _, rfl⟩, vs41 (blk_on HX7.out hB8) _, (Only.refl _ w8).set 41 _⟩
            have hB9 : Below wr.heap.size wr w9 := (HB7.out.trans (hB8.mono hw7)).trans (hon9.below (Nat.le_refl _))
            have hbs9 : BS (fun c => (Value.slice xl nl ml).ownBlock ≠ some c) w9 (.slice (some ⟨cc, 0, none⟩) r cn) (body.drop p) := (hbs8.sep (Sep.of_only (O := fun b => b = wr.heap.size) hon9 rfl) (fun c hc e => by omega)).mono (fun c _ hc e => by have := (HIO.out.row.lt e).2; omega)
            obtain ⟨l', wf, hrunf, hIf⟩ := (HIO.out.on hB9).app hLk hLl' (sb' := .slice (some ⟨cc, 0, none⟩) r cn) hbs9 29
            have HLX : Hid _ := vb_load hbx9
            have HBR : Hid _ := bs_run w9 f { gh with off := of } vh (.slice (some ⟨cc, 0, none⟩) r cn)
            have HR8 : Hid _ := hrun8
            have HRF : Hid _ := hrunf
            have H9 : Hid _ := hst9
            have HU1 : Hid _ := hu1
            have HFIN : Hid (RSpP f hs w en L (.returned (.tuple #[l', .int .i64 0])) wf) := RSpP.yes hen hLe hIf.row (Nat.le_succ _) hIf.bel
            have hls' : ∃ x n m, l' = .slice x n m := by obtain ⟨a, c, e⟩ := hIf.row.slc; exact ⟨_, _, _, e⟩
            obtain ⟨xf, nf, mf, rfl⟩ := hls'
            clear hdr hen hLk hLd hkL hLe hu1 hbu1 hrun8 hB8 hbs8 hst9 hbx9 hon9 hB9 hbs9 hrunf hIf hI7 hw7 hbxl hdl hst HIO HX7 HB7 hr hln
            go_wp2_with first
              | ((with_reducible show wpList _ _ _ ({ dst := _, op := Op.load 28 (Operand.tmp 3), type := _, pos := _, after := _, guard := _ } :: _) _ _); refine armL (.tmp 3) 28 rfl rfl rfl HLV.out ?_)
              | ((with_reducible show wpList _ _ _ ({ dst := _, op := Op.store 28 (Operand.tmp 15) (Operand.tmp 58), type := _, pos := _, after := _, guard := _ } :: _) _ _); refine armS (.tmp 15) (Operand.tmp 58) 28 rfl rfl rfl rfl H6.out ?_; simp only [Act.put])
              | ((with_reducible show wpList _ _ _ ({ dst := _, op := Op.store 3 (Operand.tmp 64) (Operand.tmp 63), type := _, pos := _, after := _, guard := _ } :: _) _ _); refine armS (.tmp 64) (Operand.tmp 63) 3 rfl rfl rfl rfl H7.out ?_; simp only [Act.put])
              | ((with_reducible show wpList _ _ _ ({ dst := _, op := Op.slice 26 (Operand.tmp 76) (some (Operand.tmp 77)) none none, type := _, pos := _, after := _, guard := _ } :: _) _ _); refine arm_slice rfl 26 (.tmp 76) (some (Operand.tmp 77)) none rfl rfl rfl rfl (HU1.out _) ?_)
              | (at_builtin; refine wpList_append_run rfl _ _ _ _ rfl rfl rfl HR8.out ?_; clear HR8)
              | ((with_reducible show wpList _ _ _ ({ dst := _, op := Op.store 26 (Operand.tmp 80) (Operand.tmp 79), type := _, pos := _, after := _, guard := _ } :: _) _ _); refine armS (.tmp 80) (Operand.tmp 79) 26 rfl rfl rfl rfl H9.out ?_; simp only [Act.put])
              | ((with_reducible show wpList _ _ _ ({ dst := _, op := Op.load 28 (Operand.tmp 15), type := _, pos := _, after := _, guard := _ } :: _) _ _); refine armL (.tmp 15) 28 rfl rfl rfl HLX.out ?_)
              | ((with_reducible show wpList _ _ _ ({ dst := _, op := Op.buildSlice 29 1 #[(0, Operand.tmp 82)], type := _, pos := _, after := _, guard := _ } :: _) _ _); refine armB (.tmp 82) 29 rfl rfl rfl HBR.out ?_)
              | (at_builtin; refine wpList_append_run rfl _ _ _ _ rfl rfl rfl HRF.out ?_; clear HRF)
            go_ret2
            exact HFIN.out
          · have q3 : decide ((r : Int) ≤ (sp : Int)) = false := by simp; omega
            have q3' : ¬ (r : Int) ≤ (sp : Int) := by omega
            have hnf : ¬ (body.drop p).length ≤ sp := by omega
            obtain ⟨m, hm⟩ : ∃ m : Nat, p + nn = m := ⟨_, rfl⟩
            have hmb : m ≤ nb := by omega
            have e90 : (p : Int) + (nn : Int) = (m : Int) := by omega
            have w90 : IntKind.i64.wrap ((p : Int) + (nn : Int)) = (m : Int) := by rw [e90]; exact wrapi64 _ (by omega)
            have hdd : (body.drop p).drop nn = body.drop m := by rw [List.drop_drop, hm]
            obtain ⟨hLk, hnext⟩ : L[k]? = some ⟨{ gh with off := of, more := true }, (body.drop p).take nn⟩ ∧ ∃ n' : Nat, (of + ((nn / 8 : Nat) : Int) ≤ 8191 ∧ L.drop (k + 1) = (frs sp nn gh n' (of + ((nn / 8 : Nat) : Int)) (body.drop m)).1 ∧ en = (frs sp nn gh n' (of + ((nn / 8 : Nat) : Int)) (body.drop m)).2 ∧ (body.drop m).length ≤ n') ∨ (8191 < of + ((nn / 8 : Nat) : Int) ∧ en = some 5) := by
              by_cases ho : of + ((nn / 8 : Nat) : Int) ≤ 8191
              · obtain ⟨n', h1, h2, h3⟩ := frs_step (g := gh) hnf hn8 hln ho
                rw [h2] at hdr
                rw [hdd] at h1 h3 hdr
                exact ⟨(drop_at hdr).1, n', .inl ⟨ho, (drop_at hdr).2.1, hen.trans h3, h1⟩⟩
              · rw [frs_far hnf hln ho] at hdr hen
                exact ⟨(drop_at hdr).1, 0, .inr ⟨by omega, hen⟩⟩
            obtain ⟨n', hnext⟩ := hnext
            have htl : ((body.drop p).take nn).length = nn := by rw [List.length_take]; omega
            obtain ⟨u1, hu1, hbu1⟩ := cut_mid hI7.dd.bd (by rw [HNB.out]; exact hbp) p nn m hm.symm (by rw [HNB.out]; omega) (by omega)
            obtain ⟨cc, cn, w8, hrun8, hB8, hbs8⟩ := frag_copy hbu1
            rw [htl] at hrun8 hbs8
            obtain ⟨w9, hst9, hbx9, hon9⟩ : ∃ w9, (Instr.storeAt 26 (.pointer (some ⟨wr.heap.size, 41, none⟩)) (.slice (some ⟨cc, 0, none⟩) nn cn)).run Try.prog w8 = .ok () w9 ∧ w9.heap[wr.heap.size]? = some (BV f { gh with off := of } vh (.slice (some ⟨cc, 0, none⟩) nn cn)) ∧ Only wr.heap.size w8 w9 := ⟨_, st_row (blk_on HX7.out hB8) (show 41 < _ by rw [vC_len]; omega) ⟨_, _, _, rfl⟩, vs41 (blk_on HX7.out hB8) _, (Only.refl _ w8).set 41 _⟩
            obtain ⟨wa, hsta, hbxa, hona⟩ : ∃ wa, (Instr.storeAt 4 (.pointer (some ⟨wr.heap.size, 39, none⟩)) (.bool true)).run Try.prog w9 = .ok () wa ∧ wa.heap[wr.heap.size]? = some (BV f { gh with off := of, more := true } vh (.slice (some ⟨cc, 0, none⟩) nn cn)) ∧ Only wr.heap.size w9 wa := ⟨_, st_bool hbx9 (show 39 < _ by rw [vC_len]; omega) true, vs39 hbx9 true, (Only.refl _ w9).set 39 _⟩
            have hon := hon9.trans hona
            have hBa : Below wr.heap.size wr wa := (HB7.out.trans (hB8.mono hw7)).trans (hon.below (Nat.le_refl _))
            have hbsa : BS (fun c => (Value.slice xl nl ml).ownBlock ≠ some c) wa (.slice (some ⟨cc, 0, none⟩) nn cn) ((body.drop p).take nn) := (hbs8.sep (Sep.of_only (O := fun b => b = wr.heap.size) hon rfl) (fun c hc e => by omega)).mono (fun c _ hc e => by have := (HIO.out.row.lt e).2; omega)
            obtain ⟨l', wf, hrunf, hIf⟩ := (HIO.out.on hBa).app hLk hLl' (sb' := .slice (some ⟨cc, 0, none⟩) nn cn) hbsa 29
            have HLX : Hid _ := vb_load hbxa
            have HBR : Hid _ := bs_run wa f { gh with off := of, more := true } vh (.slice (some ⟨cc, 0, none⟩) nn cn)
            have HR8 : Hid _ := hrun8
            have HRF : Hid _ := hrunf
            have H9 : Hid _ := hst9
            have HA : Hid _ := hsta
            have HU1 : Hid _ := hu1
            have HIF : Hid (R6I f hs gh vh (.slice a3 nb c3) body w L (k + 1) l' wf) := hIf
            obtain ⟨qn, hqn⟩ : ∃ qn : Nat, nn / 8 = qn := ⟨_, rfl⟩
            rw [hqn] at hnext
            have hmq : Hid (m = 8 * (q + qn)) := by show m = _; have := hpq.out; omega
            have HNX : Hid ((gh.off + ((q + qn : Nat) : Int) ≤ 8191 ∧ L.drop (k + 1) = (frs sp nn gh n' (gh.off + ((q + qn : Nat) : Int)) (body.drop m)).1 ∧ en = (frs sp nn gh n' (gh.off + ((q + qn : Nat) : Int)) (body.drop m)).2 ∧ (body.drop m).length ≤ n') ∨ (8191 < gh.off + ((q + qn : Nat) : Int) ∧ en = some 5)) := by
              have e : gh.off + ((q + qn : Nat) : Int) = of + (qn : Int) := by have := HOF.out; omega
              show _ ∨ _
              rw [e]
              exact hnext
            have hls' : ∃ x n m, l' = .slice x n m := by obtain ⟨a, c, e⟩ := hIf.row.slc; exact ⟨_, _, _, e⟩
            obtain ⟨xf, nf, mf, rfl⟩ := hls'
            have HM : Hid _ := hm
            clear hdr hen hLk hnext hu1 hbu1 hrun8 hB8 hbs8 hst9 hbx9 hon9 hsta hbxa hona hon hBa hbsa hrunf hIf hI7 hw7 hbxl hdl hst HIO HX7 HB7 hr hln hnf hdd htl hqn hm
            go_wp2_with first
              | ((with_reducible show wpList _ _ _ ({ dst := _, op := Op.load 28 (Operand.tmp 3), type := _, pos := _, after := _, guard := _ } :: _) _ _); refine armL (.tmp 3) 28 rfl rfl rfl HLV.out ?_)
              | ((with_reducible show wpList _ _ _ ({ dst := _, op := Op.store 28 (Operand.tmp 15) (Operand.tmp 58), type := _, pos := _, after := _, guard := _ } :: _) _ _); refine armS (.tmp 15) (Operand.tmp 58) 28 rfl rfl rfl rfl H6.out ?_; simp only [Act.put])
              | ((with_reducible show wpList _ _ _ ({ dst := _, op := Op.store 3 (Operand.tmp 64) (Operand.tmp 63), type := _, pos := _, after := _, guard := _ } :: _) _ _); refine armS (.tmp 64) (Operand.tmp 63) 3 rfl rfl rfl rfl H7.out ?_; simp only [Act.put])
              | ((with_reducible show wpList _ _ _ ({ dst := _, op := Op.slice 26 (Operand.tmp 86) (some (Operand.tmp 87)) (some (Operand.tmp 90)) none, type := _, pos := _, after := _, guard := _ } :: _) _ _); refine arm_slice rfl 26 (.tmp 86) (some (Operand.tmp 87)) (some (Operand.tmp 90)) rfl rfl rfl rfl (HU1.out _) ?_)
              | (at_builtin; refine wpList_append_run rfl _ _ _ _ rfl rfl rfl HR8.out ?_; clear HR8)
              | ((with_reducible show wpList _ _ _ ({ dst := _, op := Op.store 26 (Operand.tmp 93) (Operand.tmp 92), type := _, pos := _, after := _, guard := _ } :: _) _ _); refine armS (.tmp 93) (Operand.tmp 92) 26 rfl rfl rfl rfl H9.out ?_; simp only [Act.put])
              | ((with_reducible show wpList _ _ _ ({ dst := _, op := Op.store 4 (Operand.tmp 94) _, type := _, pos := _, after := _, guard := _ } :: _) _ _); refine armS (.tmp 94) (.const (.bool true)) 4 rfl rfl rfl rfl HA.out ?_; simp only [Act.put])
              | ((with_reducible show wpList _ _ _ ({ dst := _, op := Op.load 28 (Operand.tmp 15), type := _, pos := _, after := _, guard := _ } :: _) _ _); refine armL (.tmp 15) 28 rfl rfl rfl HLX.out ?_)
              | ((with_reducible show wpList _ _ _ ({ dst := _, op := Op.buildSlice 29 1 #[(0, Operand.tmp 96)], type := _, pos := _, after := _, guard := _ } :: _) _ _); refine armB (.tmp 96) 29 rfl rfl rfl HBR.out ?_)
              | (at_builtin; refine wpList_append_run rfl _ _ _ _ rfl rfl rfl HRF.out ?_; clear HRF)
            exact ⟨⟨k + 1, q + qn, n', m, rfl, hmb, hmq, HNX.out, HIF.out⟩, by simp [intOf]; have := HM.out; omega⟩
end

end Go.Proofs.Ytcllcinekohklaa
