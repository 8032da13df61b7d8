/-
  Parse4 and Parse6 of package icmp; Same of both.
-/
import Derived.Test.YtljmamogefgiaaaNb2
namespace Go.Proofs.Ytljmamogefgiaaa
open Go Go.RowKit Go.Shelf
set_option linter.unusedVariables false
set_option linter.unusedSimpArgs false

theorem parse_any (o : Value) (ph : Int → List Int) (v : Value) (zs : List Int) (w : World) (ho : OverI w o ph) (h : RowC w v zs) :
    Calls Try.prog 39 #[o, v] w fun e w' => ParI ph zs w e w' := by
  by_cases hn : zs.length < 8
  · exact parse_short o ph v zs w ho h hn
  · by_cases h0 : pE ph zs = 0
    · exact parse_good o ph v zs w ho h (by omega) h0
    · exact parse_bad o ph v zs w ho h (by omega) h0
set_option maxHeartbeats 2000000 in
set_option maxRecDepth 100000 in
theorem Parse6_any (A B : List Int) (hA : A.length = 16) (hB : B.length = 16) (fa : Fit A) (fb : Fit B) (v : Value) (zs : List Int) (w : World) (h : RowC w v zs) :
    Calls Try.prog 17 #[.agg (u8L A).toArray, .agg (u8L B).toArray, v] w fun e w' => ParI (ph6I A B) zs w e w' := by
  obtain ⟨W0, hW0⟩ : ∃ W0, ((w.alloc (.cells (u8L A).toArray 59)).alloc (.cells (u8L B).toArray 59)).alloc (.cells [.int .u8 0, .int .u8 0, .int .u32 0, .slice none 0 0].toArray 26) = W0 := ⟨_, rfl⟩
  have b0 := blk_new w (.cells (u8L A).toArray 59)
  have b1 := blk_new (w.alloc (.cells (u8L A).toArray 59)) (.cells (u8L B).toArray 59)
  have b2 := blk_new ((w.alloc (.cells (u8L A).toArray 59)).alloc (.cells (u8L B).toArray 59)) (.cells [.int .u8 0, .int .u8 0, .int .u32 0, .slice none 0 0].toArray 26)
  have b0' := blk_alloc (blk_alloc b0 (.cells (u8L B).toArray 59)) (.cells [.int .u8 0, .int .u8 0, .int .u32 0, .slice none 0 0].toArray 26)
  have b1' := blk_alloc b1 (.cells [.int .u8 0, .int .u8 0, .int .u32 0, .slice none 0 0].toArray 26)
  have hb : Below w.heap.size w (((w.alloc (.cells (u8L A).toArray 59)).alloc (.cells (u8L B).toArray 59)).alloc (.cells [.int .u8 0, .int .u8 0, .int .u32 0, .slice none 0 0].toArray 26)) := (((Below.refl _ w).alloc (Nat.le_refl _) _).alloc (by simp) _).alloc (by simp <;> omega) _
  rw [hW0] at b0' b1' b2 hb
  have s1 : (w.alloc (.cells (u8L A).toArray 59)).heap.size = w.heap.size + 1 := by simp
  have s2 : ((w.alloc (.cells (u8L A).toArray 59)).alloc (.cells (u8L B).toArray 59)).heap.size = w.heap.size + 1 + 1 := by simp
  rw [s1] at b1'
  rw [s2] at b2
  have LA : Hid _ := agg_load (t := 59) Try.isAgg59 Try.sizeOf59 (by simp [u8L, hA]) (CellsAt.of_blk b0')
  have LB : Hid _ := agg_load (t := 59) Try.isAgg59 Try.sizeOf59 (by simp [u8L, hB]) (CellsAt.of_blk b1')
  have hlt0 : w.heap.size + 1 + 1 < W0.heap.size := (Array.getElem?_eq_some_iff.1 b2).1
  have HB : Hid _ := hb
  have B2 : Hid _ := b2
  have HOV : Hid _ := over6_calls A B hA hB fa fb W0
  have HP : Hid (∀ W o, Below W0.heap.size W0 W → OverI W o (ph6I A B) → Calls Try.prog 39 #[o, v] W fun e w' => ParI (ph6I A B) zs W e w') := fun W o hW ho => parse_any o _ v zs W ho (h.on (hb.trans (hW.mono hb.size)))
  obtain ⟨av, cv, rfl, _⟩ := h.val
  clear h b0 b1 b2 b0' b1' hb s1 s2 fa fb hA hB
  generalize ph6I A B = ph at *
  generalize u8L A = xA at *
  generalize u8L B = xB at *
  go_enter Try.func17, Try.ntmps17
  go_wp2_with first
    | ((with_reducible show wpList _ _ _ _ _ _); refine arm_load rfl (.tmp 3) 59 rfl rfl LA.out ?_)
    | ((with_reducible show wpList _ _ _ _ _ _); refine arm_load rfl (.tmp 4) 59 rfl rfl LB.out ?_)
  refine Calls.mono HOV.out ?_
  rintro _ w1 ⟨o1, rfl, ho1, hb1⟩
  have HP1 : Hid _ := HP.out w1 o1 hb1 ho1
  obtain ⟨g1, l1, e1⟩ := ho1.own
  subst e1
  clear HP HOV ho1
  go_wp2_with fail
  refine Calls.mono HP1.out ?_
  rintro _ w2 ⟨c, rfl, hc, hb2⟩
  have hx2 := hb1.trans (hb2.mono hb1.size)
  obtain ⟨w3, hst3, b3, hon3⟩ := box_store Try.sizeOf26 (blk_on B2.out hx2) rfl c hc.1.len hc.1.one
  have HST3 : Hid _ := hst3
  have B3 : Hid _ := b3
  have hs1 := hb1.size
  have hs0 := HB.out.size
  have HC : Hid (MsgN w w3 c (pM ph zs)) := (hc.only (by omega) hon3).old (by omega)
  have HCL : Hid _ := hc.1.len
  have HE : Hid (Below w.heap.size w w3) := (HB.out.trans (hx2.mono HB.out.size)).trans (hon3.below (by omega))
  clear hst3 b3 hon3 hc hb2 hx2 HP1 hs1 hs0 LA LB
  generalize hte : pE ph zs = te at *
  have HTE : Hid _ := hte
  clear hte
  go_wp2_with ((with_reducible show wpList _ _ _ _ _ _); refine arm_store rfl (.tmp 6) (.tmp 13) 26 rfl rfl rfl HST3.out ?_)
  exact bodyPost_ret (res2t rfl rfl (agg_loadVar Try.isAgg26 Try.sizeOf26 HCL.out (CellsAt.of_blk B3.out))) rfl ⟨c, by rw [HTE.out]; rfl, HC.out, HE.out⟩

set_option maxHeartbeats 2000000 in
set_option maxRecDepth 100000 in
theorem Parse4_any (v : Value) (zs : List Int) (w : World) (h : RowC w v zs) :
    Calls Try.prog 15 #[v] w fun e w' => ParI phN zs w e w' := by
  obtain ⟨W0, hW0⟩ : ∃ W0, w.alloc (.cells [.int .u8 0, .int .u8 0, .int .u32 0, .slice none 0 0].toArray 26) = W0 := ⟨_, rfl⟩
  have b0 := blk_new w (.cells [.int .u8 0, .int .u8 0, .int .u32 0, .slice none 0 0].toArray 26)
  have hB0 := (Below.refl w.heap.size w).alloc (Nat.le_refl _) (.cells [.int .u8 0, .int .u8 0, .int .u32 0, .slice none 0 0].toArray 26)
  rw [hW0] at b0 hB0
  have hlt0 : w.heap.size < W0.heap.size := (Array.getElem?_eq_some_iff.1 b0).1
  have HP : Hid _ := parse_any _ phN v zs W0 (over4_over W0) (h.on hB0)
  have HB : Hid _ := hB0
  have B0 : Hid _ := b0
  obtain ⟨av, cv, rfl, _⟩ := h.val
  clear h b0 hB0
  generalize phN = ph at *
  go_enter Try.func15, Try.ntmps15
  go_wp2_with fail
  refine Calls.mono HP.out ?_
  rintro _ w2 ⟨c, rfl, hc, hb2⟩
  obtain ⟨w3, hst3, b3, hon3⟩ := box_store Try.sizeOf26 (blk_on B0.out hb2) rfl c hc.1.len hc.1.one
  have HST3 : Hid _ := hst3
  have B3 : Hid _ := b3
  have hs0 := HB.out.size
  have HC : Hid (MsgN w w3 c (pM ph zs)) := (hc.only (by omega) hon3).old (by omega)
  have HCL : Hid _ := hc.1.len
  have HE : Hid (Below w.heap.size w w3) := (HB.out.trans (hb2.mono HB.out.size)).trans (hon3.below (by omega))
  clear hst3 b3 hon3 hc hb2 HP hs0 hlt0
  generalize hte : pE ph zs = te at *
  have HTE : Hid _ := hte
  clear hte
  go_wp2_with ((with_reducible show wpList _ _ _ _ _ _); refine arm_store rfl (.tmp 2) (.tmp 6) 26 rfl rfl rfl HST3.out ?_)
  exact bodyPost_ret (res2t rfl rfl (agg_loadVar Try.isAgg26 Try.sizeOf26 HCL.out (CellsAt.of_blk B3.out))) rfl ⟨c, by rw [HTE.out]; rfl, HC.out, HE.out⟩

def eqB (xs ys : List Int) : Bool := (strOfNums xs).toList == (strOfNums ys).toList
theorem eqB_self (xs : List Int) : eqB xs xs = true := by simp [eqB]
def sameM (a b : Msg) : Bool := (a.ty == b.ty) && (a.code == b.code) && (a.rest == b.rest) && eqB a.body b.body
theorem sameM_self (a : Msg) : sameM a a = true := by simp [sameM, eqB_self]
end Go.Proofs.Ytljmamogefgiaaa
