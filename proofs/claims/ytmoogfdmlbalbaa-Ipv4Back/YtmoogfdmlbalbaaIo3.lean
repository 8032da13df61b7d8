/-
  The next option of bytes.
-/
import Derived.Test.YtmoogfdmlbalbaaIo2
namespace Go.Proofs.Ytmoogfdmlbalbaa
open Go Go.RowKit
set_option linter.unusedVariables false
set_option linter.unusedSimpArgs false

/-- Without the options of one byte that say nothing, at the front. -/
def skipL : List Int → List Int
  | [] => []
  | z :: r => if z = 1 then skipL r else z :: r
theorem skipL_le : ∀ ys : List Int, (skipL ys).length ≤ ys.length
  | [] => Nat.le_refl _
  | z :: r => by
    unfold skipL
    split
    · exact Nat.le_succ_of_le (skipL_le r)
    · exact Nat.le_refl _
def leftLen (W : World) (R : Nat) : Nat := match W.cell? ⟨R, 0, none⟩ with | some (.slice _ n _) => n | _ => 0
theorem ListW.leftLen {w W : World} {R N : Nat} {s : Value} {ys : List Int} (h : ListW w W R s N) (hr : RowC w s ys) : leftLen W R = ys.length := by
  obtain ⟨_, _, a, cap, rfl, _⟩ := hr
  unfold Go.Proofs.Ytmoogfdmlbalbaa.leftLen
  rw [blk_cell h.blk (j := 0) rfl]

theorem box2 {W : World} {Q : Nat} {x0 x1 : Value} (h : W.heap[Q]? = some (.cells [x0, x1].toArray 76)) (y0 y1 : Value) :
    (loadVar 76 ⟨Q, 0, none⟩).run Try.prog ((W.setCell ⟨Q, 0, none⟩ y0).setCell ⟨Q, 1, none⟩ y1) = .ok (.agg #[y0, y1]) ((W.setCell ⟨Q, 0, none⟩ y0).setCell ⟨Q, 1, none⟩ y1) ∧ Only Q W ((W.setCell ⟨Q, 0, none⟩ y0).setCell ⟨Q, 1, none⟩ y1) := by
  have r0 : ((W.setCell ⟨Q, 0, none⟩ y0).setCell ⟨Q, 1, none⟩ y1).heap[Q]? = some (.cells [y0, y1].toArray 76) := by rw [blk_set (blk_set h 0 _) 1 _]; rfl
  exact ⟨agg_loadVar (t := 76) Try.isAgg76 Try.sizeOf76 rfl (CellsAt.of_blk r0), ((Only.refl Q W).set 0 y0).set 1 y1⟩
theorem skipL_cons {z : Int} {r : List Int} (h : z ≠ 1) : skipL (z :: r) = z :: r := by unfold skipL; rw [if_neg h]

/-- What next answers. -/
def NextPost (w W : World) (R N : Nat) (zs : List Int) (e : Ending) (w' : World) : Prop :=
  ((zs = [] ∨ gz zs 0 = 0) ∧ e = .returned (.tuple #[.agg #[.int .u8 0, .slice none 0 0], .bool false]) ∧ Below w.heap.size w w' ∧ But R W w') ∨
  (zs ≠ [] ∧ gz zs 0 ≠ 0 ∧ badO zs ∧ e = .panicked [faultP ((N : Int) - zs.length) 47] ∧ Below w.heap.size w w' ∧ But R W w') ∨
  (zs ≠ [] ∧ gz zs 0 ≠ 0 ∧ ¬ badO zs ∧ ∃ d s', e = .returned (.tuple #[.agg #[.int .u8 (gz zs 0), d], .bool true]) ∧ BytesAt w.heap.size w d ((zs.drop 2).take ((gz zs 1).toNat - 2)) ∧ RowC w s' (zs.drop (gz zs 1).toNat) ∧ ListW w w' R s' N ∧ But R W w')

set_option maxHeartbeats 1000000 in
set_option maxRecDepth 100000 in
theorem next_calls {w W : World} {R N : Nat} {s : Value} {ys : List Int} (hr : RowC w s ys) (hL : ListW w W R s N) (hN : ys.length ≤ N) (hN2 : N ≤ 140737488351232) :
    Calls Try.prog 47 #[.pointer (some ⟨R, 0, none⟩)] W fun e w' => NextPost w W R N (skipL ys) e w' := by
  have hRW : R < W.heap.size := (Array.getElem?_eq_some_iff.1 hL.blk).1
  have HRB : Hid _ := blk_new W (.cells [.int .u8 0, .slice none 0 0].toArray 76)
  have HBUT : Hid (But R W (W.alloc (.cells #[.int .u8 0, .slice none 0 0] 76))) := (But.refl R W).alloc _
  have HL : Hid _ := hL.on ((Below.refl W.heap.size W).alloc (Nat.le_refl _) (.cells #[.int .u8 0, .slice none 0 0] 76))
  have HR : Hid _ := hr
  have HSZ : Hid (w.heap.size ≤ W.heap.size) := hL.bel.size
  have HNE : Hid (W.heap.size ≠ R) := by show W.heap.size ≠ R; omega
  clear hr hL
  go_enter Try.func47, Try.ntmps47
  go_wp2_with fail
  go_loopw [] (fun wr => ∃ zs s', skipL zs = skipL ys ∧ zs.length ≤ N ∧ RowC w s' zs ∧ ListW w wr R s' N ∧ But R W wr ∧ wr.heap[W.heap.size]? = some (.cells [.int .u8 0, .slice none 0 0].toArray 76)) (fun wr => leftLen wr R)
  case atStart => exact ⟨ys, s, rfl, hN, HR.out, HL.out, HBUT.out, HRB.out⟩
  case round =>
    obtain ⟨zs, s', hsk, hzN, hr, hL, hB, hrb⟩ := hrel
    have HLL : Hid _ := hL.leftLen hr
    have c0 := blk_cell hL.blk (j := 0) rfl
    have HBX : Hid _ := box2 hrb
    have b0 := blk_cell hrb (j := 0) rfl
    have b1 := blk_cell hrb (j := 1) rfl
    have f0 := blk_open hrb 0
    have f1 := blk_open hrb 1
    have HLW : Hid _ := hL
    have HRBX : Hid _ := hrb
    have HRW : Hid _ := hr
    have HB : Hid _ := hB
    have HSK : Hid _ := hsk
    have HEND : Hid (zs = [] ∨ gz zs 0 = 0 → NextPost w W R N (skipL ys) (.returned (.tuple #[.agg #[.int .u8 0, .slice none 0 0], .bool false])) ((wr.setCell ⟨W.heap.size, 0, none⟩ (.int .u8 0)).setCell ⟨W.heap.size, 1, none⟩ (.slice none 0 0))) := fun hz => by
      have e : skipL ys = zs := by
        rw [← hsk]
        cases zs with
        | nil => rfl
        | cons z r =>
          refine skipL_cons ?_
          have : gz (z :: r) 0 = z := rfl
          rcases hz with hz | hz
          · cases hz
          · omega
      rw [e]
      have ho := (box2 hrb (.int .u8 0) (.slice none 0 0)).2
      exact .inl ⟨hz, rfl, hL.bel.trans (ho.below HSZ.out), hB.off ho (Nat.le_refl _)⟩
    cases zs with
    | nil =>
      obtain ⟨_, _, a, cap, rfl, _⟩ := hr
      clear hL hrb hB hsk
      go_wp2
      refine bodyPost_ret (res2t rfl rfl (HBX.out _ _).1) rfl ?_
      exact HEND.out (by simp)
    | cons z r =>
      obtain ⟨b, off, cap, hS⟩ := hr.rowS (by simp)
      have hz0 := (hL.bel.cell (p := ⟨b, off, none⟩) hS.lt).trans (hS.cell 0 (by simp))
      rw [show gz (z :: r) 0 = z from rfl] at hz0
      have hzf : 0 ≤ z ∧ z < 256 := hS.fit z (by simp)
      have HS : Hid _ := hS
      rw [hS.val] at c0
      clear hL hrb hB hsk hr hS
      have hlen : ((z :: r).length : Int) = (r.length : Int) + 1 := by simp
      by_cases h0 : z = 0
      · subst h0
        go_wp2
        refine bodyPost_ret (res2t rfl rfl (HBX.out _ _).1) rfl ?_
        exact HEND.out (by simp [gz])
      · by_cases h1 : z = 1
        · subst h1
          have HOC : Hid _ := octet_row HS.out HLW.out (by simp)
          go_wp2_with fail
          refine Calls.mono HOC.out ?_
          rintro _ w2 ⟨rfl, hL2, hO2⟩
          have hS2 := HS.out.rest 1 (by simp)
          have hne := HNE.out
          have HF : Hid ((∃ zs s', skipL zs = skipL ys ∧ zs.length ≤ N ∧ RowC w s' zs ∧ ListW w w2 R s' N ∧ But R W w2 ∧ w2.heap[W.heap.size]? = some (.cells [.int .u8 0, .slice none 0 0].toArray 76)) ∧ leftLen w2 R < leftLen wr R) := by
            refine ⟨⟨r, _, ?_, ?_, hS2.row, hL2, HB.out.trans (.of_only hO2), ?_⟩, ?_⟩
            · have := HSK.out
              rwa [show skipL (1 :: r) = skipL r from rfl] at this
            · simp at hzN; omega
            · exact (hO2.other _ hne).trans HRBX.out
            · rw [HLL.out, hL2.leftLen hS2.row]
              simp
          clear hL2 hO2 hS2 hne
          go_wp2
          exact HF.out
        · have q0 : (z == 0) = false := by simp [h0]
          have q1 : (z == 1) = false := by simp [h1]
          have hsk : skipL ys = z :: r := by have := HSK.out; rw [skipL_cons h1] at this; exact this.symm
          have HK : Hid (skipL ys = z :: r) := hsk
          have hg0 : gz (z :: r) 0 = z := rfl
          by_cases hbad : badO (z :: r)
          · have HO : Hid _ := option_bad HRW.out HLW.out (by simp) hzN hN2 hbad
            have HF : Hid (∀ w2, Below w.heap.size w w2 → But R wr w2 → NextPost w W R N (skipL ys) (.panicked [faultP ((N : Int) - (z :: r).length) 47]) w2) := fun w2 hb hB2 => by
              rw [HK.out]
              exact .inr (.inl ⟨by simp, by rw [hg0]; exact h0, hbad, rfl, hb, HB.out.trans hB2⟩)
            clear hsk h0 h1 hbad hg0
            go_wp2_with fail
            refine Calls.mono HO.out ?_
            rintro _ w2 ⟨rfl, hb2, hB2⟩
            exact ⟨rfl, HF.out w2 hb2 hB2⟩
          · have HO : Hid _ := option_good HRW.out HLW.out (by simp) hzN hN2 hbad
            have HF : Hid (∀ d s' w2, BytesAt w.heap.size w d (((z :: r).drop 2).take ((gz (z :: r) 1).toNat - 2)) → RowC w s' ((z :: r).drop (gz (z :: r) 1).toNat) → ListW w w2 R s' N → But R W w2 → NextPost w W R N (skipL ys) (.returned (.tuple #[.agg #[.int .u8 z, d], .bool true])) w2) := fun d s' w2 h1' h2' h3' h4' => by
              rw [HK.out]
              exact .inr (.inr ⟨by simp, by rw [hg0]; exact h0, hbad, d, s', rfl, h1', h2', h3', h4'⟩)
            clear hsk h0 h1 hbad hg0
            go_wp2_with fail
            refine Calls.mono HO.out ?_
            rintro _ w2 ⟨d, s2, rfl, hd, hr2, hL2, hB2⟩
            have hne := HNE.out
            have rb2 := hB2.blk HRBX.out hne
            have B0 := blk_cell rb2 (j := 0) rfl
            have B1 := blk_cell rb2 (j := 1) rfl
            have F0 := blk_open rb2 0
            have F1 := blk_open rb2 1
            have HX2 : Hid _ := box2 rb2
            have ho := (box2 rb2 (.int .u8 z) d).2
            have HG : Hid (NextPost w W R N (skipL ys) (.returned (.tuple #[.agg #[.int .u8 z, d], .bool true])) ((w2.setCell ⟨W.heap.size, 0, none⟩ (.int .u8 z)).setCell ⟨W.heap.size, 1, none⟩ d)) :=
              HF.out d s2 _ hd hr2 ⟨(ho.other R (Ne.symm hne)).trans hL2.blk, hL2.up, hL2.bel.trans (ho.below HSZ.out)⟩ ((HB.out.trans hB2).off ho (Nat.le_refl _))
            obtain ⟨_, _, da, dc, hde, _⟩ := hd
            generalize (((z :: r).drop 2).take ((gz (z :: r) 1).toNat - 2)).length = dn at hde
            subst hde
            clear hr2 hL2 hB2 rb2 ho HO HF b0 b1 f0 f1 c0
            go_wp2
            refine bodyPost_ret (res2t rfl rfl (HX2.out _ _).1) rfl ?_
            exact HG.out

end Go.Proofs.Ytmoogfdmlbalbaa
