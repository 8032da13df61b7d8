/-
  about of package icmp; first of the document.
-/
import Derived.Test.YtljmamogefgiaaaNc2
namespace Go.Proofs.Ytljmamogefgiaaa
open Go Go.RowKit Go.Shelf
set_option linter.unusedVariables false
set_option linter.unusedSimpArgs false

theorem RowC.first {w : World} {a : Option Addr} {n cap : Nat} {zs : List Int} (h : RowC w (.slice a n cap) zs) (k : Nat) (hk : k ≤ n) : RowC w (.slice a k cap) (zs.take k) := by
  obtain ⟨hf, hl, a', cap', e, hc, hz⟩ := h
  simp at e
  obtain ⟨rfl, rfl, rfl⟩ := e
  have hlt : (zs.take k).length = k := by simp; omega
  refine ⟨fun z hz => hf z (List.mem_of_mem_take hz), by rw [hlt]; omega, a, cap, by rw [hlt], by rw [hlt]; omega, ?_⟩
  rcases hz with hz | ⟨b, off, e1, e2, e3⟩
  · exact .inl (by rw [hlt]; omega)
  · refine .inr ⟨b, off, e1, e2, fun j hj => ?_⟩
    rw [hlt] at hj
    rw [e3 j (by omega), List.getElem?_take_of_lt hj]

set_option maxHeartbeats 2000000 in
set_option maxRecDepth 100000 in
theorem about_calls (ty code rest : Int) (ft : 0 ≤ ty ∧ ty ≤ 255) (fc : 0 ≤ code ∧ code ≤ 255) (fr : 0 ≤ rest ∧ rest ≤ 4294967295) (v : Value) (zs : List Int) (mo : Nat) (hmo : mo ≤ 10000) (w : World) (h : RowC w v zs) :
    Calls Try.prog 44 #[.agg [.int .u8 ty, .int .u8 code, .int .u32 rest, .slice none 0 0].toArray, v, .int .i64 (mo : Int)] w fun e w' => ∃ c, e = .returned (.agg c.toArray) ∧ MsgN w w' c ⟨ty, code, rest, zs.take mo⟩ ∧ Below w.heap.size w w' := by
  obtain ⟨W0, hW0⟩ : ∃ W0, (w.alloc (.cells [.int .u8 ty, .int .u8 code, .int .u32 rest, .slice none 0 0].toArray 26)).alloc (.cells [.int .u8 0, .int .u8 0, .int .u32 0, .slice none 0 0].toArray 26) = W0 := ⟨_, rfl⟩
  have b0 := blk_alloc (blk_new w (.cells [.int .u8 ty, .int .u8 code, .int .u32 rest, .slice none 0 0].toArray 26)) (.cells [.int .u8 0, .int .u8 0, .int .u32 0, .slice none 0 0].toArray 26)
  have b1 := blk_new (w.alloc (.cells [.int .u8 ty, .int .u8 code, .int .u32 rest, .slice none 0 0].toArray 26)) (.cells [.int .u8 0, .int .u8 0, .int .u32 0, .slice none 0 0].toArray 26)
  have s1 : (w.alloc (.cells [.int .u8 ty, .int .u8 code, .int .u32 rest, .slice none 0 0].toArray 26)).heap.size = w.heap.size + 1 := by simp
  have hb : Below w.heap.size w ((w.alloc (.cells [.int .u8 ty, .int .u8 code, .int .u32 rest, .slice none 0 0].toArray 26)).alloc (.cells [.int .u8 0, .int .u8 0, .int .u32 0, .slice none 0 0].toArray 26)) := ((Below.refl _ w).alloc (Nat.le_refl _) _).alloc (by simp) _
  rw [s1] at b1
  rw [hW0] at b0 b1 hb
  have hlt1 : w.heap.size + 1 < W0.heap.size := (Array.getElem?_eq_some_iff.1 b1).1
  obtain ⟨a, cap, rfl, hcap, _⟩ := h.val
  by_cases hn : zs.length ≤ mo
  · rw [List.take_of_length_le hn]
    have HCL : Hid _ := Clone_calls _ _ W0 (h.on hb).bytes
    clear hmo
    have B0 : Hid _ := b0
    have B1 : Hid _ := b1
    have HB : Hid _ := hb
    have HLT : Hid _ := hlt1
    clear b0 b1 hb s1 h hlt1
    go_enter Try.func44, Try.ntmps44
    go_wp2_with fail
    refine Calls.mono HCL.out ?_
    rintro _ w1 ⟨u, rfl, hu, hb1, hnn⟩
    have hnew : New W0 u zs := hnn
    have hlt := HLT.out
    have c0 := blk_on B0.out hb1
    have c1 := blk_on B1.out hb1
    have k3 := blk_cell (j := 3) c0 rfl
    have f3 := blk_open c0 3
    have hon2 : Only w.heap.size w1 (w1.setCell ⟨w.heap.size, 3, none⟩ u) := (Only.refl _ _).set _ _
    have d0 := blk_set c0 3 u
    have d1 := blk_set_other (b' := w.heap.size) c1 (by omega) 3 u
    obtain ⟨w2, hw2⟩ : ∃ w2, w1.setCell ⟨w.heap.size, 3, none⟩ u = w2 := ⟨_, rfl⟩
    rw [hw2] at hon2 d0 d1
    have d0' : w2.heap[w.heap.size]? = some (.cells [.int .u8 ty, .int .u8 code, .int .u32 rest, u].toArray 26) := d0
    have hu2 := hnew.only (by omega) hu hon2
    have hsl : u.oneCell' = true := by
      obtain ⟨x, y, rfl, _⟩ := hu.val
      rfl
    obtain ⟨w3, hst3, b3, hon3⟩ := box_store Try.sizeOf26 d1 rfl [.int .u8 ty, .int .u8 code, .int .u32 rest, u] rfl (by simp [Value.oneCell']; exact hsl)
    have hu3 := hnew.only (by omega) hu2 hon3
    have HLD : Hid _ := agg_load (t := 26) Try.isAgg26 Try.sizeOf26 rfl (CellsAt.of_blk d0')
    have HST : Hid _ := hst3
    have B3 : Hid _ := b3
    have HX : Hid (Below w.heap.size w w3) := ((HB.out.trans (hb1.mono HB.out.size)).trans (hon2.below (Nat.le_refl _))).trans (hon3.below (by omega))
    have HM : Hid (MsgN w w3 [.int .u8 ty, .int .u8 code, .int .u32 rest, u] ⟨ty, code, rest, zs⟩) := ⟨⟨⟨u, rfl, hu3⟩, ft, fc, fr⟩, u, rfl, hnew.old (by have := HB.out.size; omega)⟩
    obtain ⟨xu, ku, rfl, _⟩ := hu.val
    clear hu hu2 hu3 hon2 hon3 d0 d0' d1 c0 c1 hst3 b3 hb1 hnn hnew hlt HCL hsl
    go_wp2_with first
      | ((with_reducible show wpList _ _ _ _ _ _); refine arm_load rfl (.tmp 3) 26 rfl rfl HLD.out ?_)
      | ((with_reducible show wpList _ _ _ _ _ _); refine arm_store rfl (.tmp 6) (.tmp 15) 26 rfl rfl rfl HST.out ?_)
    exact bodyPost_ret (res1t rfl rfl (agg_loadVar Try.isAgg26 Try.sizeOf26 rfl (CellsAt.of_blk B3.out))) rfl ⟨_, rfl, HM.out, HX.out⟩
  · have hn : mo < zs.length := by omega
    have hf := (h.on hb).first mo (by omega)
    have HCL : Hid _ := Clone_calls _ _ W0 hf.bytes
    have hkc : mo ≤ cap := by omega
    have B0 : Hid _ := b0
    have B1 : Hid _ := b1
    have HB : Hid _ := hb
    have HLT : Hid _ := hlt1
    clear b0 b1 hb s1 h hf hlt1
    generalize zs.take mo = ys at *
    go_enter Try.func44, Try.ntmps44
    go_wp2_with fail
    refine Calls.mono HCL.out ?_
    rintro _ w1 ⟨u, rfl, hu, hb1, hnn⟩
    have hnew : New W0 u ys := hnn
    have hlt := HLT.out
    have c0 := blk_on B0.out hb1
    have c1 := blk_on B1.out hb1
    have k3 := blk_cell (j := 3) c0 rfl
    have f3 := blk_open c0 3
    have hon2 : Only w.heap.size w1 (w1.setCell ⟨w.heap.size, 3, none⟩ u) := (Only.refl _ _).set _ _
    have d0 := blk_set c0 3 u
    have d1 := blk_set_other (b' := w.heap.size) c1 (by omega) 3 u
    obtain ⟨w2, hw2⟩ : ∃ w2, w1.setCell ⟨w.heap.size, 3, none⟩ u = w2 := ⟨_, rfl⟩
    rw [hw2] at hon2 d0 d1
    have d0' : w2.heap[w.heap.size]? = some (.cells [.int .u8 ty, .int .u8 code, .int .u32 rest, u].toArray 26) := d0
    have hu2 := hnew.only (by omega) hu hon2
    have hsl : u.oneCell' = true := by
      obtain ⟨x, y, rfl, _⟩ := hu.val
      rfl
    obtain ⟨w3, hst3, b3, hon3⟩ := box_store Try.sizeOf26 d1 rfl [.int .u8 ty, .int .u8 code, .int .u32 rest, u] rfl (by simp [Value.oneCell']; exact hsl)
    have hu3 := hnew.only (by omega) hu2 hon3
    have HLD : Hid _ := agg_load (t := 26) Try.isAgg26 Try.sizeOf26 rfl (CellsAt.of_blk d0')
    have HST : Hid _ := hst3
    have B3 : Hid _ := b3
    have HX : Hid (Below w.heap.size w w3) := ((HB.out.trans (hb1.mono HB.out.size)).trans (hon2.below (Nat.le_refl _))).trans (hon3.below (by omega))
    have HM : Hid (MsgN w w3 [.int .u8 ty, .int .u8 code, .int .u32 rest, u] ⟨ty, code, rest, ys⟩) := ⟨⟨⟨u, rfl, hu3⟩, ft, fc, fr⟩, u, rfl, hnew.old (by have := HB.out.size; omega)⟩
    obtain ⟨xu, ku, rfl, _⟩ := hu.val
    clear hu hu2 hu3 hon2 hon3 d0 d0' d1 c0 c1 hst3 b3 hb1 hnn hnew hlt HCL hsl
    go_wp2_with first
      | ((with_reducible show wpList _ _ _ _ _ _); refine arm_load rfl (.tmp 3) 26 rfl rfl HLD.out ?_)
      | ((with_reducible show wpList _ _ _ _ _ _); refine arm_store rfl (.tmp 6) (.tmp 15) 26 rfl rfl rfl HST.out ?_)
    exact bodyPost_ret (res1t rfl rfl (agg_loadVar Try.isAgg26 Try.sizeOf26 rfl (CellsAt.of_blk B3.out))) rfl ⟨_, rfl, HM.out, HX.out⟩


end Go.Proofs.Ytljmamogefgiaaa
