/-
  Same of the document's answer, of any two datagrams.
-/
import Derived.Test.YtbaeogoojpngbaaY1
import Derived.Test.YtbaeogoojpngbaaYo2
namespace Go.Proofs.Ytbaeogoojpngbaa
open Go Go.RowKit
set_option linter.unusedVariables false
set_option linter.unusedSimpArgs false

section
variable {S S' : Nat → Prop} {w : World} {f f' : F6} {g g' : G6} {vh vb vh' vb' : Value} {hs hs' : Opts} {body body' : List Int}
set_option maxHeartbeats 8000000 in
set_option maxRecDepth 100000 in
theorem RSame_any (hf : AdOk f) (hf' : AdOk f') (h : D6 S w f vh vb hs body) (h' : D6 S' w f' vh' vb' hs' body') :
    Calls Try.prog 19 #[VV f g vh vb, VV f' g' vh' vb'] w fun e w' => e = .returned (.bool (same6 f g hs body f' g' hs' body')) ∧ Below w.heap.size w w' := by
  obtain ⟨A, eA, fA, lA⟩ := hf.src
  obtain ⟨B, eB, fB, lB⟩ := hf.dst
  obtain ⟨A', eA', fA', lA'⟩ := hf'.src
  obtain ⟨B', eB', fB', lB'⟩ := hf'.dst
  obtain ⟨w2, hw2⟩ : ∃ w2, w2 = (w.alloc (BV f g vh vb)).alloc (BV f' g' vh' vb') := ⟨_, rfl⟩
  have hb1 : w2.heap[w.heap.size]? = some (BV f g vh vb) := by rw [hw2]; exact blk_alloc (blk_new w _) _
  have hb2 : w2.heap[w.heap.size + 1]? = some (BV f' g' vh' vb') := by
    have := blk_new (w.alloc (BV f g vh vb)) (BV f' g' vh' vb')
    rw [show (w.alloc (BV f g vh vb)).heap.size = w.heap.size + 1 by simp] at this
    rw [hw2]; exact this
  have hB : Below w.heap.size w w2 := by rw [hw2]; exact ((Below.refl w.heap.size w).alloc (Nat.le_refl _) _).alloc (by simp) _
  have hd := h.on hB
  have hd' := h'.on hB
  obtain ⟨_, _, ah, ch, rfl, _⟩ := h.hd
  obtain ⟨_, _, ah', ch', rfl, _⟩ := h'.hd
  obtain ⟨_, _, ab, cb, rfl, _⟩ := h.bd.row
  obtain ⟨_, _, ab', cb', rfl, _⟩ := h'.bd.row
  have p0 := vb0 hb1
  have q0 := vb0 hb2
  have p1 := vb1 hb1
  have q1 := vb1 hb2
  have p2 := vb2 hb1
  have q2 := vb2 hb2
  have p35 := vb35 hb1
  have q35 := vb35 hb2
  have p36 := vb36 hb1
  have q36 := vb36 hb2
  have p37 := vb37 hb1
  have q37 := vb37 hb2
  have p38 := vb38 hb1
  have q38 := vb38 hb2
  have p39 := vb39 hb1
  have q39 := vb39 hb2
  have p40 := vb40 hb1
  have q40 := vb40 hb2
  have p41 := vb41 hb1
  have q41 := vb41 hb2
  have t1 := hd.bd.row.bytes.text
  have t2 := hd'.bd.row.bytes.text
  have HS1 : Hid _ := vb_src hb1
  have HS2 : Hid _ := vb_src hb2
  have HD1 : Hid _ := vb_dst hb1
  have HD2 : Hid _ := vb_dst hb2
  rw [eA] at HS1
  rw [eA'] at HS2
  rw [eB] at HD1
  rw [eB'] at HD2
  have HN1 : Hid _ := fun W => neq_arr A A' fA fA' lA lA' W
  have HN2 : Hid _ := fun W => neq_arr B B' fB fB' lB lB' W
  have HBX : Hid (w2.heap[w.heap.size]? = some (BV f g (.slice ah hs.length ch) (.slice ab body.length cb))) := hb1
  have HBY : Hid (w2.heap[w.heap.size + 1]? = some (BV f' g' (.slice ah' hs'.length ch') (.slice ab' body'.length cb'))) := hb2
  have HBB : Hid (Below w.heap.size w w2) := hB
  have hW := hw2.symm
  have HA : Hid (HS S w2 (.slice ah hs.length ch) hs) := hd.hd
  have HA' : Hid (HS S' w2 (.slice ah' hs'.length ch') hs') := hd'.hd
  have hlh := hd.hd.len
  unfold same6
  rw [adN_src eA, adN_src eA', adN_dst eB, adN_dst eB']
  generalize hx1 : (f.cls == f'.cls) = x1
  generalize hx2 : (f.lab == f'.lab) = x2
  generalize hx3 : (f.hop == f'.hop) = x3
  generalize decide (A = A') = x4 at *
  generalize decide (B = B') = x5 at *
  generalize hx7 : (g.fr == g'.fr) = x7
  generalize hx8 : (g.id == g'.id) = x8
  generalize hx9 : (g.off == g'.off) = x9
  generalize hx10 : (g.more == g'.more) = x10
  generalize hx11 : (f.proto == f'.proto) = x11
  unfold bodyB
  generalize strOfNums body = T at *
  generalize strOfNums body' = T' at *
  generalize hx12 : (T.toList == T'.toList) = x12
  obtain ⟨N, hN⟩ : ∃ N, hs.length = N := ⟨_, rfl⟩
  obtain ⟨M, hM⟩ : ∃ M, hs'.length = M := ⟨_, rfl⟩
  have HNN : Hid (hs.length = N) := hN
  have HMM : Hid (hs'.length = M) := hM
  obtain ⟨x6, hx6⟩ : ∃ x, hdsB hs hs' = x := ⟨_, rfl⟩
  have HX6 : Hid (hdsB hs hs' = x6) := hx6
  have HNE : Hid (N ≠ M → x6 = false) := fun hne => by rw [← hx6]; exact hdsB_len (by rw [hN, hM]; exact hne)
  have HEQ : Hid (N = M → allB hs hs' N → x6 = true) := fun he ha => by rw [← hx6]; exact hdsB_all (by rw [hN, hM]; exact he) (by rw [hN]; exact ha)
  have HNT : Hid (∀ k, k < N → hdB hs hs' k = false → x6 = false) := fun k hk hn => by rw [← hx6]; exact hdsB_not (by rw [hN]; exact hk) hn
  rw [hN] at hlh p35
  rw [hM] at q35
  rw [hx6]
  clear hx6
  have hy1 : (f.cls != f'.cls) = !x1 := by rw [← hx1]; rfl
  have hy2 : (f.lab != f'.lab) = !x2 := by rw [← hx2]; rfl
  have hy3 : (f.hop != f'.hop) = !x3 := by rw [← hx3]; rfl
  have hy7 : (g.fr != g'.fr) = !x7 := by rw [← hx7]; rfl
  have hy8 : (g.id != g'.id) = !x8 := by rw [← hx8]; rfl
  have hy9 : (g.off != g'.off) = !x9 := by rw [← hx9]; rfl
  have hy10 : (g.more != g'.more) = !x10 := by rw [← hx10]; rfl
  have hy11 : (f.proto != f'.proto) = !x11 := by rw [← hx11]; rfl
  have hy12 : (T.toList != T'.toList) = !x12 := by rw [← hx12]; rfl
  generalize hr : (x1 && x2 && x3 && x4 && x5 && x6 && x7 && x8 && x9 && x10 && x11 && x12) = r
  have HR : Hid _ := hr
  clear hr hd hd' h h' hb1 hb2 hB fA fB lA lB eA eB hf fA' fB' lA' lB' eA' eB' hf' hw2 hN hM
  generalize u8L A = UA at *
  generalize u8L B = UB at *
  generalize u8L A' = UA' at *
  generalize u8L B' = UB' at *
  by_cases hnm : N = M
  · subst hnm
    have HEQ2 : Hid (allB hs hs' N → x6 = true) := HEQ.out rfl
    clear HNE HEQ
    go_enter Try.func19, Try.ntmps19
    simp only [List.append_eq, List.cons_append, List.nil_append]
    go_wp2_with first
    | ((with_reducible show wpList _ _ _ ({ dst := _, op := Op.load 24 (Operand.tmp 26), type := _, pos := _, after := _, guard := _ } :: _) _ _); refine arm_load rfl (.tmp 26) 24 rfl rfl HS1.out ?_)
    | ((with_reducible show wpList _ _ _ ({ dst := _, op := Op.load 24 (Operand.tmp 28), type := _, pos := _, after := _, guard := _ } :: _) _ _); refine arm_load rfl (.tmp 28) 24 rfl rfl HS2.out ?_)
    | ((with_reducible show wpList _ _ _ ({ dst := _, op := Op.load 24 (Operand.tmp 33), type := _, pos := _, after := _, guard := _ } :: _) _ _); refine arm_load rfl (.tmp 33) 24 rfl rfl HD1.out ?_)
    | ((with_reducible show wpList _ _ _ ({ dst := _, op := Op.load 24 (Operand.tmp 35), type := _, pos := _, after := _, guard := _ } :: _) _ _); refine arm_load rfl (.tmp 35) 24 rfl rfl HD2.out ?_)
    | ((with_reducible show wpList _ _ _ ({ dst := _, op := Op.binOp BinOp.neq 24 (Operand.tmp 27) (Operand.tmp 29) 24, type := _, pos := _, after := _, guard := _ } :: _) _ _); refine arm_bin rfl .neq 24 24 (.tmp 27) (.tmp 29) rfl rfl rfl (gd_arr _ _ _ _ _ _) (HN1.out _) ?_)
    | ((with_reducible show wpList _ _ _ ({ dst := _, op := Op.binOp BinOp.neq 24 (Operand.tmp 34) (Operand.tmp 36) 24, type := _, pos := _, after := _, guard := _ } :: _) _ _); refine arm_bin rfl .neq 24 24 (.tmp 34) (.tmp 36) rfl rfl rfl (gd_arr _ _ _ _ _ _) (HN2.out _) ?_)
    all_goals try (go_ret; refine ⟨congrArg (fun b => Ending.returned (.bool b)) ?_, HBB.out⟩; rw [← HR.out]; simp [*]; done)
    clear p0 q0 p1 q1 p2 q2 p36 q36 p37 q37 p38 q38 p39 q39 p40 q40 p41 q41 t1 t2 HS1 HS2 HD1 HD2 HN1 HN2 hW
    have HX : Hid (x6 = r) := (by have h9 := HR.out; simp_all : x6 = r)
    clear hy1 hy2 hy3 hy7 hy8 hy9 hy10 hy11 hy12
    clear hx1 hx2 hx3 hx7 hx8 hx9 hx10 hx11 hx12
    go_loopw [5] (fun i wr => ∃ k : Nat, k ≤ N ∧ i = .int .i64 k ∧ allB hs hs' k ∧ Below w2.heap.size w2 wr) (fun i _ => N - (intOf i).toNat)
    case atStart => exact ⟨0, Nat.zero_le _, rfl, (fun j hj => absurd hj (Nat.not_lt_zero _)), Below.refl _ _⟩
    case round =>
      obtain ⟨k, hk, rfl, hall, hBw⟩ := hrel
      have HALL : Hid (allB hs hs' k) := hall
      have HBW : Hid (Below w2.heap.size w2 wr) := hBw
      have r35 : wr.cell? ⟨w.heap.size, 35, none⟩ = some (.slice ah N ch) := by have := vb35 (blk_on HBX.out hBw); rw [HNN.out] at this; exact this
      clear p35 q35 hall
      by_cases hlt : k < N
      · have hki : (k : Int) < (N : Int) := by omega
        obtain ⟨b1, o1, a1, c1, ea, hat1⟩ := HA.out.nth (k := k) (by rw [HNN.out]; exact hlt)
        obtain ⟨b2, o2, a2, c2, eb, hat2⟩ := HA'.out.nth (k := k) (by rw [HMM.out]; exact hlt)
        subst ea eb
        have hup : ∀ x : Hi wr, Below w2.heap.size w2 x.W := fun x => hBw.trans (x.below.mono hBw.size)
        have s1 : ∀ x : Hi wr, x.W.cell? ⟨w.heap.size, 35, none⟩ = some (.slice (some ⟨b1, o1, none⟩) N ch) := fun x => by have := vb35 (blk_on HBX.out (hup x)); rw [HNN.out] at this; exact this
        have s2 : ∀ x : Hi wr, x.W.cell? ⟨w.heap.size + 1, 35, none⟩ = some (.slice (some ⟨b2, o2, none⟩) N ch') := fun x => by have := vb35 (blk_on HBY.out (hup x)); rw [HMM.out] at this; exact this
        have k1 : ∀ x : Hi wr, x.W.cell? ⟨b1, o1 + k * 2, none⟩ = some (.int .u8 (oK hs k)) := fun x => (hat1 _ (hup x)).1
        have k2 : ∀ x : Hi wr, x.W.cell? ⟨b2, o2 + k * 2, none⟩ = some (.int .u8 (oK hs' k)) := fun x => (hat2 _ (hup x)).1
        have d1 : ∀ x : Hi wr, x.W.cell? ⟨b1, o1 + k * 2 + 1, none⟩ = some (.slice a1 (oD hs k).length c1) := fun x => (hat1 _ (hup x)).2.1
        have d2 : ∀ x : Hi wr, x.W.cell? ⟨b2, o2 + k * 2 + 1, none⟩ = some (.slice a2 (oD hs' k).length c2) := fun x => (hat2 _ (hup x)).2.1
        have x1 : ∀ x : Hi wr, (convert 26 9 (.slice a1 (oD hs k).length c1)).run Try.prog x.W = .ok (.string (strOfNums (oD hs k))) x.W := fun x => (hat1 _ (hup x)).2.2
        have x2 : ∀ x : Hi wr, (convert 26 9 (.slice a2 (oD hs' k).length c2)).run Try.prog x.W = .ok (.string (strOfNums (oD hs' k))) x.W := fun x => (hat2 _ (hup x)).2.2
        have HUP : Hid _ := hup
        have hHD : hdB hs hs' k = ((oK hs k == oK hs' k) && ((strOfNums (oD hs k)).toList == (strOfNums (oD hs' k)).toList)) := rfl
        obtain ⟨xb, hxb⟩ : ∃ x, hdB hs hs' k = x := ⟨_, rfl⟩
        rw [hxb] at hHD
        have HXB : Hid (hdB hs hs' k = xb) := hxb
        clear hat1 hat2 hup hBw hxb
        generalize strOfNums (oD hs k) = T1 at *
        generalize strOfNums (oD hs' k) = T2 at *
        generalize oK hs k = K1 at *
        generalize oK hs' k = K2 at *
        generalize (oD hs k).length = D1 at *
        generalize (oD hs' k).length = D2 at *
        by_cases hkk : K1 = K2
        · subst hkk
          have hHD' : Hid (xb = (T1.toList == T2.toList)) := (by rw [hHD]; simp : xb = (T1.toList == T2.toList))
          clear hHD
          cases xb
          · have qt : (T1.toList != T2.toList) = true := by have := hHD'.out; simp only [bne, ← this]; rfl
            have qt2 : (T1.toList == T2.toList) = false := hHD'.out.symm
            clear hHD'
            go_wp2_with fail
            refine wp_region_hi (by kernel_rfl) (by kernel_rfl) ?_
            repeat (first | go_big_quiet_skip | (go_big_quiet_want; go_big_quiet_op; first | go_big_quiet_on | go_big_quiet_call (fail)))
            refine wpQuiet_nil ?_
            intro _ hw
            obtain ⟨y, rfl⟩ := hw
            clear s1 s2 k1 k2 d1 d2 x1 x2
            go_wp2
            go_ret
            have hxf := HX.out
            rw [HNT.out k hlt HXB.out] at hxf
            exact ⟨by rw [← hxf]; rfl, HBB.out.trans ((HUP.out y).mono HBB.out.size)⟩
          · have qt : (T1.toList != T2.toList) = false := by have := hHD'.out; simp only [bne, ← this]; rfl
            have qt2 : (T1.toList == T2.toList) = true := hHD'.out.symm
            clear hHD'
            go_wp2_with fail
            refine wp_region_hi (by kernel_rfl) (by kernel_rfl) ?_
            repeat (first | go_big_quiet_skip | (go_big_quiet_want; go_big_quiet_op; first | go_big_quiet_on | go_big_quiet_call (fail)))
            refine wpQuiet_nil ?_
            intro _ hw
            obtain ⟨y, rfl⟩ := hw
            clear s1 s2 k1 k2 d1 d2 x1 x2
            go_wp2
            exact ⟨⟨k + 1, by omega, by simp, allB_succ HALL.out HXB.out, HUP.out y⟩, by simp [intOf]; omega⟩
        · have qk : (K1 != K2) = true := by simp [hkk]
          have hxf0 : xb = false := by rw [hHD, show (K1 == K2) = false by simp [hkk]]; rfl
          subst hxf0
          clear hHD hkk
          go_wp2_with fail
          refine wp_region_hi (by kernel_rfl) (by kernel_rfl) ?_
          repeat (first | go_big_quiet_skip | (go_big_quiet_want; go_big_quiet_op; first | go_big_quiet_on | go_big_quiet_call (fail)))
          refine wpQuiet_nil ?_
          intro _ hw
          obtain ⟨y, rfl⟩ := hw
          clear s1 s2 k1 k2 d1 d2 x1 x2
          go_wp2
          go_ret
          have hxf := HX.out
          rw [HNT.out k hlt HXB.out] at hxf
          exact ⟨by rw [← hxf]; rfl, HBB.out.trans ((HUP.out y).mono HBB.out.size)⟩
      · obtain rfl : k = N := by omega
        have HXT : Hid (x6 = true) := HEQ2.out HALL.out
        clear hBw
        go_wp2
        go_ret
        have hxf := HX.out
        rw [HXT.out] at hxf
        exact ⟨by rw [← hxf]; rfl, HBB.out.trans (HBW.out.mono HBB.out.size)⟩
  · have HF : Hid (x6 = false) := HNE.out hnm
    have qn : ((N : Int) == (M : Int)) = false := by simp; omega
    have qn2 : (N == M) = false := by simp; omega
    have hrf : r = false := by
      have h1 := HF.out
      have h2 := HR.out
      rw [h1] at h2
      rw [← h2]
      simp
    have HRF : Hid (r = false) := hrf
    clear hrf
    rw [HRF.out]
    clear hnm HNE HEQ HNT HR
    go_enter Try.func19, Try.ntmps19
    simp only [List.append_eq, List.cons_append, List.nil_append]
    go_wp2_with first
    | ((with_reducible show wpList _ _ _ ({ dst := _, op := Op.load 24 (Operand.tmp 26), type := _, pos := _, after := _, guard := _ } :: _) _ _); refine arm_load rfl (.tmp 26) 24 rfl rfl HS1.out ?_)
    | ((with_reducible show wpList _ _ _ ({ dst := _, op := Op.load 24 (Operand.tmp 28), type := _, pos := _, after := _, guard := _ } :: _) _ _); refine arm_load rfl (.tmp 28) 24 rfl rfl HS2.out ?_)
    | ((with_reducible show wpList _ _ _ ({ dst := _, op := Op.load 24 (Operand.tmp 33), type := _, pos := _, after := _, guard := _ } :: _) _ _); refine arm_load rfl (.tmp 33) 24 rfl rfl HD1.out ?_)
    | ((with_reducible show wpList _ _ _ ({ dst := _, op := Op.load 24 (Operand.tmp 35), type := _, pos := _, after := _, guard := _ } :: _) _ _); refine arm_load rfl (.tmp 35) 24 rfl rfl HD2.out ?_)
    | ((with_reducible show wpList _ _ _ ({ dst := _, op := Op.binOp BinOp.neq 24 (Operand.tmp 27) (Operand.tmp 29) 24, type := _, pos := _, after := _, guard := _ } :: _) _ _); refine arm_bin rfl .neq 24 24 (.tmp 27) (.tmp 29) rfl rfl rfl (gd_arr _ _ _ _ _ _) (HN1.out _) ?_)
    | ((with_reducible show wpList _ _ _ ({ dst := _, op := Op.binOp BinOp.neq 24 (Operand.tmp 34) (Operand.tmp 36) 24, type := _, pos := _, after := _, guard := _ } :: _) _ _); refine arm_bin rfl .neq 24 24 (.tmp 34) (.tmp 36) rfl rfl rfl (gd_arr _ _ _ _ _ _) (HN2.out _) ?_)
    all_goals
      go_ret
      exact ⟨rfl, HBB.out⟩
end

end Go.Proofs.Ytbaeogoojpngbaa
