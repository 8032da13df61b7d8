/-
  WithIdent of package icmp and of the document.
-/
import Derived.Test.YtljmamogefgiaaaNc2
namespace Go.Proofs.Ytljmamogefgiaaa
open Go Go.RowKit Go.Shelf
set_option linter.unusedVariables false
set_option linter.unusedSimpArgs false

theorem or_half (a c : Int) (ha : 0 ≤ a ∧ a ≤ 65535) (hc : 0 ≤ c ∧ c ≤ 65535) : bits .or .u32 (a * 65536) c = a * 65536 + c := by
  obtain ⟨x, rfl⟩ := Int.eq_ofNat_of_zero_le ha.1
  obtain ⟨y, rfl⟩ := Int.eq_ofNat_of_zero_le hc.1
  rw [show ((x : Int) * 65536) = ((x * 65536 : Nat) : Int) by omega, u32_or_nat (x * 65536) y (by omega) (by omega), Nat.or_comm, show x * 65536 = 2 ^ 16 * x by omega, or_hi y x 16 (by omega)]
  omega
theorem and_half (a : Int) (ha : 0 ≤ a ∧ a ≤ 4294967295) : bits .and .u32 a 65535 = a % 65536 := by
  obtain ⟨x, rfl⟩ := Int.eq_ofNat_of_zero_le ha.1
  rw [show (65535 : Int) = ((65535 : Nat) : Int) from rfl, u32_and_nat x 65535 (by omega) (by omega), show (65535 : Nat) = 2 ^ 16 - 1 from rfl, Nat.and_two_pow_sub_one_eq_mod]
  omega
def withI (m : Msg) (id : Int) : Msg := ⟨m.ty, m.code, id * 65536 + m.rest % 65536, m.body⟩

set_option maxHeartbeats 2000000 in
set_option maxRecDepth 100000 in
theorem WithIdent_calls (c : List Value) (m : Msg) (id : Int) (hid : 0 ≤ id ∧ id ≤ 65535) (w : World) (hm : MsgC w c m) :
    Calls Try.prog 20 #[.agg c.toArray, .int .u16 id] w fun e w' => ∃ c', e = .returned (.agg c'.toArray) ∧ MsgN w w' c' (withI m id) ∧ Below w.heap.size w w' := by
  obtain ⟨⟨vb, rfl, hd⟩, ft, fc, fr⟩ := hm
  obtain ⟨W0, hW0⟩ : ∃ W0, (w.alloc (.cells [.int .u8 m.ty, .int .u8 m.code, .int .u32 m.rest, vb].toArray 26)).alloc (.cells [.int .u8 0, .int .u8 0, .int .u32 0, .slice none 0 0].toArray 26) = W0 := ⟨_, rfl⟩
  have b0 := blk_alloc (blk_new w (.cells [.int .u8 m.ty, .int .u8 m.code, .int .u32 m.rest, vb].toArray 26)) (.cells [.int .u8 0, .int .u8 0, .int .u32 0, .slice none 0 0].toArray 26)
  have b1 := blk_new (w.alloc (.cells [.int .u8 m.ty, .int .u8 m.code, .int .u32 m.rest, vb].toArray 26)) (.cells [.int .u8 0, .int .u8 0, .int .u32 0, .slice none 0 0].toArray 26)
  have s1 : (w.alloc (.cells [.int .u8 m.ty, .int .u8 m.code, .int .u32 m.rest, vb].toArray 26)).heap.size = w.heap.size + 1 := by simp
  have hb : Below w.heap.size w ((w.alloc (.cells [.int .u8 m.ty, .int .u8 m.code, .int .u32 m.rest, vb].toArray 26)).alloc (.cells [.int .u8 0, .int .u8 0, .int .u32 0, .slice none 0 0].toArray 26)) := ((Below.refl _ w).alloc (Nat.le_refl _) _).alloc (by simp) _
  rw [s1] at b1
  rw [hW0] at b0 b1 hb
  have hlt1 : w.heap.size + 1 < W0.heap.size := (Array.getElem?_eq_some_iff.1 b1).1
  have hr0 : 0 ≤ id * 65536 + m.rest % 65536 ∧ id * 65536 + m.rest % 65536 ≤ 4294967295 := by omega
  have k2 := blk_cell (j := 2) b0 rfl
  have f2 := blk_open b0 2
  have c0 := blk_set b0 2 (.int .u32 (id * 65536 + m.rest % 65536))
  have c1 := blk_set_other (b' := w.heap.size) b1 (by omega) 2 (.int .u32 (id * 65536 + m.rest % 65536))
  have on1 : Only w.heap.size W0 (W0.setCell ⟨w.heap.size, 2, none⟩ (.int .u32 (id * 65536 + m.rest % 65536))) := (Only.refl _ _).set _ _
  obtain ⟨W1, hW1⟩ : ∃ W1, W0.setCell ⟨w.heap.size, 2, none⟩ (.int .u32 (id * 65536 + m.rest % 65536)) = W1 := ⟨_, rfl⟩
  rw [hW1] at c0 c1 on1
  have hb1 : Below w.heap.size w W1 := hb.trans (on1.below (Nat.le_refl _))
  have hs1 : W1.heap.size = W0.heap.size := on1.size
  have k3 := blk_cell (j := 3) c0 rfl
  have hd1 := hd.later hb1
  have HCL : Hid _ := Clone_calls _ _ W1 hd1
  obtain ⟨ab, kb, rfl, _⟩ := hd.val
  have B0 : Hid _ := c0
  have B1 : Hid _ := c1
  have HB : Hid _ := hb1
  have HLT : Hid (w.heap.size + 1 < W1.heap.size) := by
    have : w.heap.size + 1 < W1.heap.size := by rw [hs1]; exact hlt1
    exact this
  have a1 := and_half m.rest fr
  have a2q := or_half id (m.rest % 65536) hid (by omega)
  have hw : id * 65536 % 4294967296 = id * 65536 := by omega
  have hw2 : (id * 65536 + m.rest % 65536) % 4294967296 = id * 65536 + m.rest % 65536 := by omega
  have hid0 : id % 4294967296 = id := by omega
  clear b0 b1 hb s1 hd hd1 hb1 c0 c1 on1 hs1 hlt1
  go_enter Try.func20, Try.ntmps20
  go_wp2_with fail
  refine Calls.mono HCL.out ?_
  rintro _ w1 ⟨u, rfl, hu, hbb, hn⟩
  have hnew : New W1 u m.body := hn
  have hlt := HLT.out
  have e0 := blk_on B0.out hbb
  have e1 := blk_on B1.out hbb
  have k33 := blk_cell (j := 3) e0 rfl
  have f33 := blk_open e0 3
  have hon2 : Only w.heap.size w1 (w1.setCell ⟨w.heap.size, 3, none⟩ u) := (Only.refl _ _).set _ _
  have d0 := blk_set e0 3 u
  have d1 := blk_set_other (b' := w.heap.size) e1 (by omega) 3 u
  obtain ⟨w2, hw2'⟩ : ∃ w2, w1.setCell ⟨w.heap.size, 3, none⟩ u = w2 := ⟨_, rfl⟩
  rw [hw2'] at hon2 d0 d1
  have d0' : w2.heap[w.heap.size]? = some (.cells [.int .u8 m.ty, .int .u8 m.code, .int .u32 (id * 65536 + m.rest % 65536), u].toArray 26) := d0
  have hu2 := hnew.only (by omega) hu hon2
  have hsl : Value.oneCell' (u) = true := by
    obtain ⟨x, y, e, _⟩ := hu.val
    rw [e]
    rfl
  obtain ⟨w3, hst3, b3, hon3⟩ := box_store Try.sizeOf26 d1 rfl [.int .u8 m.ty, .int .u8 m.code, .int .u32 (id * 65536 + m.rest % 65536), u] rfl (by simp [Value.oneCell']; exact hsl)
  have hu3 := hnew.only (by omega) hu2 hon3
  have HLD : Hid _ := agg_load (t := 26) Try.isAgg26 Try.sizeOf26 rfl (CellsAt.of_blk d0')
  have HST : Hid _ := hst3
  have B3 : Hid _ := b3
  have HX : Hid (Below w.heap.size w w3) := ((HB.out.trans (hbb.mono HB.out.size)).trans (hon2.below (Nat.le_refl _))).trans (hon3.below (by omega))
  have HM : Hid (MsgN w w3 [.int .u8 m.ty, .int .u8 m.code, .int .u32 (id * 65536 + m.rest % 65536), u] (withI m id)) := ⟨⟨⟨u, rfl, hu3⟩, ft, fc, hr0⟩, u, rfl, hnew.old (by have := HB.out.size; omega)⟩
  clear hu2 hu3 hon2 hon3 d0 d0' d1 e0 e1 hst3 b3 hlt hsl
  obtain ⟨xu, ku, rfl, _⟩ := hu.val
  clear hu hbb hn hnew HCL
  go_wp2_with first
    | ((with_reducible show wpList _ _ _ _ _ _); refine arm_load rfl (.tmp 2) 26 rfl rfl HLD.out ?_)
    | ((with_reducible show wpList _ _ _ _ _ _); refine arm_store rfl (.tmp 4) (.tmp 17) 26 rfl rfl rfl HST.out ?_)
  exact bodyPost_ret (res1t rfl rfl (agg_loadVar Try.isAgg26 Try.sizeOf26 rfl (CellsAt.of_blk B3.out))) rfl ⟨_, rfl, HM.out, HX.out⟩

set_option maxHeartbeats 2000000 in
set_option maxRecDepth 100000 in
theorem RWithIdent_calls (c : List Value) (m : Msg) (id : Int) (hid : 0 ≤ id ∧ id ≤ 65535) (w : World) (hm : MsgC w c m) :
    Calls Try.prog 27 #[.agg c.toArray, .int .u16 id] w fun e w' => ∃ c', e = .returned (.agg c'.toArray) ∧ MsgN w w' c' (withI m id) ∧ Below w.heap.size w w' := by
  obtain ⟨⟨vb, rfl, hd⟩, ft, fc, fr⟩ := hm
  obtain ⟨W0, hW0⟩ : ∃ W0, (w.alloc (.cells [.int .u8 m.ty, .int .u8 m.code, .int .u32 m.rest, vb].toArray 26)).alloc (.cells [.int .u8 0, .int .u8 0, .int .u32 0, .slice none 0 0].toArray 26) = W0 := ⟨_, rfl⟩
  have b0 := blk_alloc (blk_new w (.cells [.int .u8 m.ty, .int .u8 m.code, .int .u32 m.rest, vb].toArray 26)) (.cells [.int .u8 0, .int .u8 0, .int .u32 0, .slice none 0 0].toArray 26)
  have b1 := blk_new (w.alloc (.cells [.int .u8 m.ty, .int .u8 m.code, .int .u32 m.rest, vb].toArray 26)) (.cells [.int .u8 0, .int .u8 0, .int .u32 0, .slice none 0 0].toArray 26)
  have s1 : (w.alloc (.cells [.int .u8 m.ty, .int .u8 m.code, .int .u32 m.rest, vb].toArray 26)).heap.size = w.heap.size + 1 := by simp
  have hb : Below w.heap.size w ((w.alloc (.cells [.int .u8 m.ty, .int .u8 m.code, .int .u32 m.rest, vb].toArray 26)).alloc (.cells [.int .u8 0, .int .u8 0, .int .u32 0, .slice none 0 0].toArray 26)) := ((Below.refl _ w).alloc (Nat.le_refl _) _).alloc (by simp) _
  rw [s1] at b1
  rw [hW0] at b0 b1 hb
  have hlt1 : w.heap.size + 1 < W0.heap.size := (Array.getElem?_eq_some_iff.1 b1).1
  have hr0 : 0 ≤ id * 65536 + m.rest % 65536 ∧ id * 65536 + m.rest % 65536 ≤ 4294967295 := by omega
  have k2 := blk_cell (j := 2) b0 rfl
  have f2 := blk_open b0 2
  have c0 := blk_set b0 2 (.int .u32 (id * 65536 + m.rest % 65536))
  have c1 := blk_set_other (b' := w.heap.size) b1 (by omega) 2 (.int .u32 (id * 65536 + m.rest % 65536))
  have on1 : Only w.heap.size W0 (W0.setCell ⟨w.heap.size, 2, none⟩ (.int .u32 (id * 65536 + m.rest % 65536))) := (Only.refl _ _).set _ _
  obtain ⟨W1, hW1⟩ : ∃ W1, W0.setCell ⟨w.heap.size, 2, none⟩ (.int .u32 (id * 65536 + m.rest % 65536)) = W1 := ⟨_, rfl⟩
  rw [hW1] at c0 c1 on1
  have hb1 : Below w.heap.size w W1 := hb.trans (on1.below (Nat.le_refl _))
  have hs1 : W1.heap.size = W0.heap.size := on1.size
  have k3 := blk_cell (j := 3) c0 rfl
  have hd1 := hd.later hb1
  have hBa := (Below.refl W1.heap.size W1).alloc (Nat.le_refl _) (.cells #[] 5)
  obtain ⟨a2, cap2, w1, hrun, hu, hb2, hloc⟩ := bytes_copied2 (hd1.later hBa) W1.heap.size 24
  have hbb := hBa.trans (hb2.mono hBa.size)
  have hnew : New W1 (.slice a2 m.body.length cap2) m.body := hloc.imp (fun h => h) (by rintro ⟨g, off, rfl, hle⟩; exact ⟨g, off, _, _, rfl, Nat.le_trans hBa.size hle⟩)
  have HR : Hid _ := hrun
  have k3a := blk_cell (j := 3) (blk_on c0 hBa) rfl
  obtain ⟨ab, kb, rfl, _⟩ := hd.val
  have B0 : Hid _ := c0
  have B1 : Hid _ := c1
  have HB : Hid _ := hb1
  have HLT : Hid (w.heap.size + 1 < W1.heap.size) := by
    have : w.heap.size + 1 < W1.heap.size := by rw [hs1]; exact hlt1
    exact this
  have a1 := and_half m.rest fr
  have a2q := or_half id (m.rest % 65536) hid (by omega)
  have hw : id * 65536 % 4294967296 = id * 65536 := by omega
  have hw2 : (id * 65536 + m.rest % 65536) % 4294967296 = id * 65536 + m.rest % 65536 := by omega
  have hid0 : id % 4294967296 = id := by omega
  have hlt := HLT.out
  have e0 := blk_on B0.out hbb
  have e1 := blk_on B1.out hbb
  have k33 := blk_cell (j := 3) e0 rfl
  have f33 := blk_open e0 3
  have hon2 : Only w.heap.size w1 (w1.setCell ⟨w.heap.size, 3, none⟩ (.slice a2 m.body.length cap2)) := (Only.refl _ _).set _ _
  have d0 := blk_set e0 3 (.slice a2 m.body.length cap2)
  have d1 := blk_set_other (b' := w.heap.size) e1 (by omega) 3 (.slice a2 m.body.length cap2)
  obtain ⟨w2, hw2'⟩ : ∃ w2, w1.setCell ⟨w.heap.size, 3, none⟩ (.slice a2 m.body.length cap2) = w2 := ⟨_, rfl⟩
  rw [hw2'] at hon2 d0 d1
  have d0' : w2.heap[w.heap.size]? = some (.cells [.int .u8 m.ty, .int .u8 m.code, .int .u32 (id * 65536 + m.rest % 65536), (.slice a2 m.body.length cap2)].toArray 26) := d0
  have hu2 := hnew.only (by omega) hu hon2
  have hsl : Value.oneCell' ((.slice a2 m.body.length cap2)) = true := by
    obtain ⟨x, y, e, _⟩ := hu.val
    rw [e]
    rfl
  obtain ⟨w3, hst3, b3, hon3⟩ := box_store Try.sizeOf26 d1 rfl [.int .u8 m.ty, .int .u8 m.code, .int .u32 (id * 65536 + m.rest % 65536), (.slice a2 m.body.length cap2)] rfl (by simp [Value.oneCell'])
  have hu3 := hnew.only (by omega) hu2 hon3
  have HLD : Hid _ := agg_load (t := 26) Try.isAgg26 Try.sizeOf26 rfl (CellsAt.of_blk d0')
  have HST : Hid _ := hst3
  have B3 : Hid _ := b3
  have HX : Hid (Below w.heap.size w w3) := ((HB.out.trans (hbb.mono HB.out.size)).trans (hon2.below (Nat.le_refl _))).trans (hon3.below (by omega))
  have HM : Hid (MsgN w w3 [.int .u8 m.ty, .int .u8 m.code, .int .u32 (id * 65536 + m.rest % 65536), (.slice a2 m.body.length cap2)] (withI m id)) := ⟨⟨⟨(.slice a2 m.body.length cap2), rfl, hu3⟩, ft, fc, hr0⟩, (.slice a2 m.body.length cap2), rfl, hnew.old (by have := HB.out.size; omega)⟩
  clear hu2 hu3 hon2 hon3 d0 d0' d1 e0 e1 hst3 b3 hlt hsl
  clear hu hbb hnew hrun hb2 hloc hBa b0 b1 hb s1 hd hd1 hb1 c0 c1 on1 hs1 hlt1
  go_enter Try.func27, Try.ntmps27
  go_wp2_with first
    | ((with_reducible show wpList _ _ _ ({ dst := _, op := Op.call { callee := Callee.builtin Builtin.append, args := _, argTypes := _ }, type := _, pos := _, after := _, guard := _ } :: _) _ _); refine wpList_append_run rfl _ _ _ _ rfl rfl rfl HR.out ?_)
    | ((with_reducible show wpList _ _ _ _ _ _); refine arm_load rfl (.tmp 2) 26 rfl rfl HLD.out ?_)
    | ((with_reducible show wpList _ _ _ _ _ _); refine arm_store rfl (.tmp 4) (.tmp 18) 26 rfl rfl rfl HST.out ?_)
  exact bodyPost_ret (res1t rfl rfl (agg_loadVar Try.isAgg26 Try.sizeOf26 rfl (CellsAt.of_blk B3.out))) rfl ⟨_, rfl, HM.out, HX.out⟩


end Go.Proofs.Ytljmamogefgiaaa
