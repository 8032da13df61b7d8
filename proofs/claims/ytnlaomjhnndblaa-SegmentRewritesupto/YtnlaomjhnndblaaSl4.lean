/-
  What a parsed segment tells; ParseTCP4 and ParseTCP6 of package segment.
-/
import Derived.Test.YtnlaomjhnndblaaSl3
namespace Go.Proofs.Ytnlaomjhnndblaa
open Go Go.RowKit Go.Shelf
set_option linter.unusedVariables false
set_option linter.unusedSimpArgs false

def tE (ph : Int → Int → List Int) (zs : List Int) : Int := if zs.length < 20 then 60 else if ¬ (20 ≤ hdL zs ∧ hdL zs ≤ zs.length) then 61 else if 65535 < zs.length then 2 else if sumW 0 (wordsL (ph 6 zs.length ++ zs)) = 65535 then 0 else 62
def tT (ph : Int → Int → List Int) (zs : List Int) : Seg := if tE ph zs = 0 then ⟨wd2 zs 0, wd2 zs 2, lg zs 4, lg zs 8, flg zs, wd2 zs 14, wd2 zs 18, (zs.drop 20).take (hdL zs - 20).toNat, (zs.drop 20).drop (hdL zs - 20).toNat⟩ else ⟨0, 0, 0, 0, 0, 0, 0, [], []⟩
/-- A segment whose bytes lie in memory made behind world w. -/
def TcpN (w w' : World) (c : List Value) (t : Seg) : Prop := TcpC w' c t ∧ ∃ vo vd, c = [.int .u16 t.src, .int .u16 t.dst, .int .u32 t.seq, .int .u32 t.ack, .int .u8 t.fl, .int .u16 t.win, .int .u16 t.urg, vo, vd] ∧ New w vo t.opts ∧ New w vd t.data
theorem TcpN.old {w w2 W : World} {c : List Value} {t : Seg} (h : TcpN w2 W c t) (hs : w.heap.size ≤ w2.heap.size) : TcpN w W c t := by
  obtain ⟨h1, vo, vd, h2, h3, h4⟩ := h
  exact ⟨h1, vo, vd, h2, h3.old hs, h4.old hs⟩
theorem TcpN.only {w W W' : World} {g : Nat} {c : List Value} {t : Seg} (h : TcpN w W c t) (hg : g < w.heap.size) (ho : Only g W W') : TcpN w W' c t := by
  obtain ⟨⟨⟨vo, vd, h1, h2, h3⟩, r1, r2, r3, r4, r5, r6, r7⟩, vo', vd', e, n1, n2⟩ := h
  rw [h1] at e
  simp only [List.cons.injEq, and_true, true_and] at e
  obtain ⟨e1, e2⟩ := e
  subst e1 e2
  exact ⟨⟨⟨vo, vd, h1, n1.only hg h2 ho, n2.only hg h3 ho⟩, r1, r2, r3, r4, r5, r6, r7⟩, vo, vd, h1, n1, n2⟩
theorem TcpC.one {w : World} {c : List Value} {t : Seg} (h : TcpC w c t) : ∀ v ∈ c, v.oneCell' = true := by
  obtain ⟨⟨vo, vd, rfl, ho, hd⟩, _⟩ := h
  obtain ⟨a, k, rfl, _⟩ := ho.val
  obtain ⟨a', k', rfl, _⟩ := hd.val
  simp [Value.oneCell']
def ParT (ph : Int → Int → List Int) (zs : List Int) (w : World) (e : Ending) (w' : World) : Prop :=
  ∃ c, e = .returned (.tuple #[.agg c.toArray, .int .i64 (tE ph zs)]) ∧ TcpN w w' c (tT ph zs) ∧ Below w.heap.size w w'
theorem ParT.bad {ph : Int → Int → List Int} {zs : List Int} {w w' : World} {e : Ending} {er : Int} (hu : tE ph zs = er) (hne : er ≠ 0) (h : e = .returned (.tuple #[.agg #[.int .u16 0, .int .u16 0, .int .u32 0, .int .u32 0, .int .u8 0, .int .u16 0, .int .u16 0, .slice none 0 0, .slice none 0 0], .int .i64 er])) (hb : Below w.heap.size w w') : ParT ph zs w e w' := by
  have h0 : ¬ tE ph zs = 0 := by rw [hu]; exact hne
  refine ⟨[.int .u16 0, .int .u16 0, .int .u32 0, .int .u32 0, .int .u8 0, .int .u16 0, .int .u16 0, .slice none 0 0, .slice none 0 0], ?_, ?_, hb⟩
  · rw [h, hu]
  · unfold tT
    rw [if_neg h0]
    exact ⟨⟨⟨_, _, rfl, BytesAt.none w', BytesAt.none w'⟩, by decide, by decide, by decide, by decide, by decide, by decide, by decide⟩, _, _, rfl, .inl rfl, .inl rfl⟩
theorem ParT.good {ph : Int → Int → List Int} {zs : List Int} {n : Nat} {w w' : World} {e : Ending} {vo vd : Value} (hf : Fit zs) (hH : hdL zs = 20 + (n : Int)) (hu : tE ph zs = 0) (h : e = .returned (.tuple #[.agg #[.int .u16 (wd2 zs 0), .int .u16 (wd2 zs 2), .int .u32 (lg zs 4), .int .u32 (lg zs 8), .int .u8 (flg zs), .int .u16 (wd2 zs 14), .int .u16 (wd2 zs 18), vo, vd], .int .i64 0])) (ho : BytesAt w'.heap.size w' vo ((zs.drop 20).take n)) (hv : BytesAt w'.heap.size w' vd ((zs.drop 20).drop n)) (no : New w vo ((zs.drop 20).take n)) (nd : New w vd ((zs.drop 20).drop n)) (hb : Below w.heap.size w w') : ParT ph zs w e w' := by
  have hk : (hdL zs - 20).toNat = n := by omega
  have hr := flg_range hf
  refine ⟨[.int .u16 (wd2 zs 0), .int .u16 (wd2 zs 2), .int .u32 (lg zs 4), .int .u32 (lg zs 8), .int .u8 (flg zs), .int .u16 (wd2 zs 14), .int .u16 (wd2 zs 18), vo, vd], ?_, ?_, hb⟩
  · rw [h, hu]
  · unfold tT
    rw [if_pos hu, hk]
    exact ⟨⟨⟨vo, vd, rfl, ho, hv⟩, wd2_range hf 0, wd2_range hf 2, lg_range hf 4, lg_range hf 8, ⟨hr.1, by show flg zs < 256; omega⟩, wd2_range hf 14, wd2_range hf 18⟩, vo, vd, rfl, no, nd⟩
theorem tE_short {ph : Int → Int → List Int} {zs : List Int} (h : zs.length < 20) : tE ph zs = 60 := if_pos h
theorem tE_length {ph : Int → Int → List Int} {zs : List Int} (h : 20 ≤ zs.length) (h4 : ¬ (20 ≤ hdL zs ∧ hdL zs ≤ zs.length)) : tE ph zs = 61 := by
  unfold tE
  rw [if_neg (by omega), if_pos h4]
theorem tE_more {ph : Int → Int → List Int} {zs : List Int} (h : 20 ≤ zs.length) (h4 : 20 ≤ hdL zs ∧ hdL zs ≤ zs.length) : tE ph zs = if 65535 < zs.length then 2 else if sumW 0 (wordsL (ph 6 zs.length ++ zs)) = 65535 then 0 else 62 := by
  unfold tE
  rw [if_neg (by omega), if_neg (by simpa using h4)]
theorem parseTCP_any (ov : Value) (ph : Int → Int → List Int) (v : Value) (zs : List Int) (w : World) (ho : OverV w ov ph) (h : RowC w v zs) :
    Calls Try.prog 52 #[ov, v] w fun e w' => ParT ph zs w e w' := by
  by_cases hn : zs.length < 20
  · exact (parseTCP_bad ov ph v zs w ho h 60 (by decide) (fun W hW => readTCP_short v zs W (h.on hW) hn)).mono (fun e w' k => .bad (tE_short hn) (by decide) k.1 k.2)
  · have hn : 20 ≤ zs.length := by omega
    by_cases hL : 20 ≤ hdL zs ∧ hdL zs ≤ zs.length
    · have hH : hdL zs = 20 + (((hdL zs - 20).toNat : Nat) : Int) := by omega
      refine (parseTCP_more ov ph v zs (hdL zs - 20).toNat w ho h hn hH (by omega) _ rfl).mono ?_
      rintro e w' ⟨hb, hbad, hgood⟩
      have hu := tE_more (ph := ph) hn hL
      by_cases h0 : tE ph zs = 0
      · obtain ⟨vo, vd, he, k1, k2, k3, k4⟩ := hgood (hu.symm.trans h0)
        exact .good h.fit hH h0 he k1 k2 k3 k4 hb
      · exact .bad hu (fun k => h0 (hu.trans k)) (hbad (fun k => h0 (hu.trans k))) hb
    · exact (parseTCP_bad ov ph v zs w ho h 61 (by decide) (fun W hW => (readTCP_more v zs W (h.on hW) hn).mono (fun e w' k => ⟨k.2.1 hL, k.1⟩))).mono (fun e w' k => .bad (tE_length hn hL) (by decide) k.1 k.2)

set_option maxHeartbeats 2000000 in
set_option maxRecDepth 100000 in
theorem ParseTCP4_any (A B : List Int) (hA : A.length = 4) (hB : B.length = 4) (fa : Fit A) (fb : Fit B) (v : Value) (zs : List Int) (w : World) (h : RowC w v zs) :
    Calls Try.prog 24 #[.agg (u8L A).toArray, .agg (u8L B).toArray, v] w fun e w' => ParT (ph4 A B) zs w e w' := by
  obtain ⟨W0, hW0⟩ : ∃ W0, ((w.alloc (.cells (u8L A).toArray 23)).alloc (.cells (u8L B).toArray 23)).alloc (.cells [.int .u16 0, .int .u16 0, .int .u32 0, .int .u32 0, .int .u8 0, .int .u16 0, .int .u16 0, .slice none 0 0, .slice none 0 0].toArray 34) = W0 := ⟨_, rfl⟩
  have b0 := blk_new w (.cells (u8L A).toArray 23)
  have b1 := blk_new (w.alloc (.cells (u8L A).toArray 23)) (.cells (u8L B).toArray 23)
  have b2 := blk_new ((w.alloc (.cells (u8L A).toArray 23)).alloc (.cells (u8L B).toArray 23)) (.cells [.int .u16 0, .int .u16 0, .int .u32 0, .int .u32 0, .int .u8 0, .int .u16 0, .int .u16 0, .slice none 0 0, .slice none 0 0].toArray 34)
  have b0' := blk_alloc (blk_alloc b0 (.cells (u8L B).toArray 23)) (.cells [.int .u16 0, .int .u16 0, .int .u32 0, .int .u32 0, .int .u8 0, .int .u16 0, .int .u16 0, .slice none 0 0, .slice none 0 0].toArray 34)
  have b1' := blk_alloc b1 (.cells [.int .u16 0, .int .u16 0, .int .u32 0, .int .u32 0, .int .u8 0, .int .u16 0, .int .u16 0, .slice none 0 0, .slice none 0 0].toArray 34)
  have hb : Below w.heap.size w (((w.alloc (.cells (u8L A).toArray 23)).alloc (.cells (u8L B).toArray 23)).alloc (.cells [.int .u16 0, .int .u16 0, .int .u32 0, .int .u32 0, .int .u8 0, .int .u16 0, .int .u16 0, .slice none 0 0, .slice none 0 0].toArray 34)) := (((Below.refl _ w).alloc (Nat.le_refl _) _).alloc (by simp) _).alloc (by simp <;> omega) _
  rw [hW0] at b0' b1' b2 hb
  have s1 : (w.alloc (.cells (u8L A).toArray 23)).heap.size = w.heap.size + 1 := by simp
  have s2 : ((w.alloc (.cells (u8L A).toArray 23)).alloc (.cells (u8L B).toArray 23)).heap.size = w.heap.size + 1 + 1 := by simp
  rw [s1] at b1'
  rw [s2] at b2
  have LA : Hid _ := agg_load (t := 23) Try.isAgg23 Try.sizeOf23 (by simp [u8L, hA]) (CellsAt.of_blk b0')
  have LB : Hid _ := agg_load (t := 23) Try.isAgg23 Try.sizeOf23 (by simp [u8L, hB]) (CellsAt.of_blk b1')
  have hlt0 : w.heap.size + 1 + 1 < W0.heap.size := (Array.getElem?_eq_some_iff.1 b2).1
  have HB : Hid _ := hb
  have B2 : Hid _ := b2
  have HOV : Hid _ := over4_calls A B hA hB fa fb W0
  have HP : Hid (∀ W o, Below W0.heap.size W0 W → OverV W o (ph4 A B) → Calls Try.prog 52 #[o, v] W fun e w' => ParT (ph4 A B) zs W e w') := fun W o hW ho => parseTCP_any o _ v zs W ho (h.on (hb.trans (hW.mono hb.size)))
  obtain ⟨av, cv, rfl, _⟩ := h.val
  clear h b0 b1 b2 b0' b1' hb s1 s2 fa fb hA hB
  generalize ph4 A B = ph at *
  generalize u8L A = xA at *
  generalize u8L B = xB at *
  go_enter Try.func24, Try.ntmps24
  go_wp2_with first
    | ((with_reducible show wpList _ _ _ _ _ _); refine arm_load rfl (.tmp 3) 23 rfl rfl LA.out ?_)
    | ((with_reducible show wpList _ _ _ _ _ _); refine arm_load rfl (.tmp 4) 23 rfl rfl LB.out ?_)
  refine Calls.mono HOV.out ?_
  rintro _ w1 ⟨o1, rfl, ho1, hb1⟩
  have HP1 : Hid _ := HP.out w1 o1 hb1 ho1
  obtain ⟨g1, l1, e1⟩ := ho1.own
  subst e1
  clear HP HOV ho1
  go_wp2_with fail
  refine Calls.mono HP1.out ?_
  rintro _ w2 ⟨c, rfl, hc, hb2⟩
  have hx2 := hb1.trans (hb2.mono hb1.size)
  obtain ⟨w3, hst3, b3, hon3⟩ := box_store Try.sizeOf34 (blk_on B2.out hx2) rfl c hc.1.len hc.1.one
  have H1233 : Hid _ := hst3
  have B3 : Hid _ := b3
  have hs1 := hb1.size
  have hs0 := HB.out.size
  have HC : Hid (TcpN w w3 c (tT ph zs)) := (hc.only (by omega) hon3).old (by omega)
  have HCL : Hid _ := hc.1.len
  have HE : Hid (Below w.heap.size w w3) := (HB.out.trans (hx2.mono HB.out.size)).trans (hon3.below (by omega))
  clear hst3 b3 hon3 hc hb2 hx2 HP1 hs1 hs0 LA LB
  generalize hte : tE ph zs = te at *
  have HTE : Hid _ := hte
  clear hte
  go_wp2_with ((with_reducible show wpList _ _ _ _ _ _); refine arm_store rfl (.tmp 6) (.tmp 13) 34 rfl rfl rfl H1233.out ?_)
  exact bodyPost_ret (res2t rfl rfl (agg_loadVar Try.isAgg34 Try.sizeOf34 HCL.out (CellsAt.of_blk B3.out))) rfl ⟨c, by rw [HTE.out]; rfl, HC.out, HE.out⟩

set_option maxHeartbeats 2000000 in
set_option maxRecDepth 100000 in
theorem ParseTCP6_any (A B : List Int) (hA : A.length = 16) (hB : B.length = 16) (fa : Fit A) (fb : Fit B) (v : Value) (zs : List Int) (w : World) (h : RowC w v zs) :
    Calls Try.prog 26 #[.agg (u8L A).toArray, .agg (u8L B).toArray, v] w fun e w' => ParT (ph6 A B) zs w e w' := by
  obtain ⟨W0, hW0⟩ : ∃ W0, ((w.alloc (.cells (u8L A).toArray 25)).alloc (.cells (u8L B).toArray 25)).alloc (.cells [.int .u16 0, .int .u16 0, .int .u32 0, .int .u32 0, .int .u8 0, .int .u16 0, .int .u16 0, .slice none 0 0, .slice none 0 0].toArray 34) = W0 := ⟨_, rfl⟩
  have b0 := blk_new w (.cells (u8L A).toArray 25)
  have b1 := blk_new (w.alloc (.cells (u8L A).toArray 25)) (.cells (u8L B).toArray 25)
  have b2 := blk_new ((w.alloc (.cells (u8L A).toArray 25)).alloc (.cells (u8L B).toArray 25)) (.cells [.int .u16 0, .int .u16 0, .int .u32 0, .int .u32 0, .int .u8 0, .int .u16 0, .int .u16 0, .slice none 0 0, .slice none 0 0].toArray 34)
  have b0' := blk_alloc (blk_alloc b0 (.cells (u8L B).toArray 25)) (.cells [.int .u16 0, .int .u16 0, .int .u32 0, .int .u32 0, .int .u8 0, .int .u16 0, .int .u16 0, .slice none 0 0, .slice none 0 0].toArray 34)
  have b1' := blk_alloc b1 (.cells [.int .u16 0, .int .u16 0, .int .u32 0, .int .u32 0, .int .u8 0, .int .u16 0, .int .u16 0, .slice none 0 0, .slice none 0 0].toArray 34)
  have hb : Below w.heap.size w (((w.alloc (.cells (u8L A).toArray 25)).alloc (.cells (u8L B).toArray 25)).alloc (.cells [.int .u16 0, .int .u16 0, .int .u32 0, .int .u32 0, .int .u8 0, .int .u16 0, .int .u16 0, .slice none 0 0, .slice none 0 0].toArray 34)) := (((Below.refl _ w).alloc (Nat.le_refl _) _).alloc (by simp) _).alloc (by simp <;> omega) _
  rw [hW0] at b0' b1' b2 hb
  have s1 : (w.alloc (.cells (u8L A).toArray 25)).heap.size = w.heap.size + 1 := by simp
  have s2 : ((w.alloc (.cells (u8L A).toArray 25)).alloc (.cells (u8L B).toArray 25)).heap.size = w.heap.size + 1 + 1 := by simp
  rw [s1] at b1'
  rw [s2] at b2
  have LA : Hid _ := agg_load (t := 25) Try.isAgg25 Try.sizeOf25 (by simp [u8L, hA]) (CellsAt.of_blk b0')
  have LB : Hid _ := agg_load (t := 25) Try.isAgg25 Try.sizeOf25 (by simp [u8L, hB]) (CellsAt.of_blk b1')
  have hlt0 : w.heap.size + 1 + 1 < W0.heap.size := (Array.getElem?_eq_some_iff.1 b2).1
  have HB : Hid _ := hb
  have B2 : Hid _ := b2
  have HOV : Hid _ := over6_calls A B hA hB fa fb W0
  have HP : Hid (∀ W o, Below W0.heap.size W0 W → OverV W o (ph6 A B) → Calls Try.prog 52 #[o, v] W fun e w' => ParT (ph6 A B) zs W e w') := fun W o hW ho => parseTCP_any o _ v zs W ho (h.on (hb.trans (hW.mono hb.size)))
  obtain ⟨av, cv, rfl, _⟩ := h.val
  clear h b0 b1 b2 b0' b1' hb s1 s2 fa fb hA hB
  generalize ph6 A B = ph at *
  generalize u8L A = xA at *
  generalize u8L B = xB at *
  go_enter Try.func26, Try.ntmps26
  go_wp2_with first
    | ((with_reducible show wpList _ _ _ _ _ _); refine arm_load rfl (.tmp 3) 25 rfl rfl LA.out ?_)
    | ((with_reducible show wpList _ _ _ _ _ _); refine arm_load rfl (.tmp 4) 25 rfl rfl LB.out ?_)
  refine Calls.mono HOV.out ?_
  rintro _ w1 ⟨o1, rfl, ho1, hb1⟩
  have HP1 : Hid _ := HP.out w1 o1 hb1 ho1
  obtain ⟨g1, l1, e1⟩ := ho1.own
  subst e1
  clear HP HOV ho1
  go_wp2_with fail
  refine Calls.mono HP1.out ?_
  rintro _ w2 ⟨c, rfl, hc, hb2⟩
  have hx2 := hb1.trans (hb2.mono hb1.size)
  obtain ⟨w3, hst3, b3, hon3⟩ := box_store Try.sizeOf34 (blk_on B2.out hx2) rfl c hc.1.len hc.1.one
  have H1233 : Hid _ := hst3
  have B3 : Hid _ := b3
  have hs1 := hb1.size
  have hs0 := HB.out.size
  have HC : Hid (TcpN w w3 c (tT ph zs)) := (hc.only (by omega) hon3).old (by omega)
  have HCL : Hid _ := hc.1.len
  have HE : Hid (Below w.heap.size w w3) := (HB.out.trans (hx2.mono HB.out.size)).trans (hon3.below (by omega))
  clear hst3 b3 hon3 hc hb2 hx2 HP1 hs1 hs0 LA LB
  generalize hte : tE ph zs = te at *
  have HTE : Hid _ := hte
  clear hte
  go_wp2_with ((with_reducible show wpList _ _ _ _ _ _); refine arm_store rfl (.tmp 6) (.tmp 13) 34 rfl rfl rfl H1233.out ?_)
  exact bodyPost_ret (res2t rfl rfl (agg_loadVar Try.isAgg34 Try.sizeOf34 HCL.out (CellsAt.of_blk B3.out))) rfl ⟨c, by rw [HTE.out]; rfl, HC.out, HE.out⟩


end Go.Proofs.Ytnlaomjhnndblaa
